/- Remove, whole. -/
import Derived.Test.YtflkaladkbkbgaaGreatKFlN
namespace Go.Proofs.YtflkaladkbkbgaaGreat
set_option linter.unusedVariables false
set_option linter.unusedSimpArgs false
open Go.RowKit Go.Maps
set_option maxRecDepth 100000
theorem enters_remove1 : EntersF 60 := fun _ _ => by simp [callFunc, go_sem, Tryz.func60, Tryz.f60]
def DiskM.rem (M : DiskM) (nm : List UInt8) : Int × DiskM :=
  if M.gone then (90, M) else if badNm nm then (1, M)
  else match M.fs nm with
    | none => (4, M)
    | some _ => if M.left = 0 then (90, M.off) else (0, (M.del nm).spent)
theorem rem_ref {M : DiskM} {s : ByteArray} (h : refM M [s] ≠ 0) : M.rem s.data.toList = (refM M [s], M) := by
  unfold refM at h ⊢
  unfold DiskM.rem
  cases hg : M.gone
  · rw [hg] at h
    cases hb : badNm s.data.toList
    · exact absurd (by simp [hb]) h
    · simp [hb]
  · simp
open Go.ChangeMaps Go.MapKept in
theorem turned_block {w w' : World} {b : Nat} (h : w.mapTurned w' b) : w.grownBy w' (some b) ∧ w'.heap.size = w.heap.size := by
  obtain ⟨es, clock, es', clock', hb, rfl⟩ := h
  exact ⟨⟨rfl, rfl, rfl, by simp [Go.ChangeMaps.setBlock], fun k _ hk => heap_setBlock_other hb _ (fun e => hk (by rw [e]))⟩, by simp [Go.ChangeMaps.setBlock]⟩
theorem wp_delete {w w' : World} {o : Oper} {a : Act} {K : Act → World → Prop} {Q : Exit → Act → World → Prop} (x k : Operand) (t1 t2 : TypeId) (ho : o.op = .call { callee := .builtin .delete, args := #[x, k], argTypes := #[t1, t2] })
    (v1 v2 : Value) (hx : a.eval x = v1) (hk : a.eval k = v2) (hrun : (Builtin.delete_ #[t1, t2] o.type #[v1, v2]).run Tryz.prog w = .ok (.tuple #[]) w') (h : K (a.put o.dst (.tuple #[])) w') : o.wp Tryz.prog a w K Q := by
  unfold Oper.wp execOp
  simp only [ho, resolve, invoke, builtin, Sem.run_bind, Sem.run_pure, Result.andThen_ok, List.map_toArray, List.map_cons, List.map_nil, hx, hk, hrun]
  exact h
section
variable {w : World} {Ft : Nat → Prop} {d m : Nat} {gs : List UInt8 → Option Nat} {rv : List UInt8 → Value} {D : DataW Unit} {M : DiskM}
/-- A file's key is taken out of the map. -/
theorem DiskAt.drop (h : DiskAt w Ft d m gs rv D M) (hlt : ∀ b, Ft b → b < w.heap.size) {s : ByteArray} (hs : s.size ≤ 24) {g : Nat} (hg : gs s.data.toList = some g) (ty : TypeId) :
    ∃ w', (Builtin.delete_ #[45, 9] ty #[.map (some m), .string s]).run Tryz.prog w = .ok (.tuple #[]) w' ∧ DiskAt w' Ft d m (fun x => if x = s.data.toList then none else gs x) rv (D.del (.string s.data.toList)) (M.del s.data.toList) ∧ w.grownBy w' (some m) ∧ w'.heap.size = w.heap.size := by
  obtain ⟨w', hrun, hown, hturn⟩ := h.map.drop fkeyed Tryz.underlying45 (fkey s (by unfold maxLen; omega)) ty
  obtain ⟨hgr, hsz⟩ := turned_block hturn
  refine ⟨w', hrun, h.delFile hg hown fun b hb => ?_, hgr, hsz⟩
  by_cases hbl : b < w.heap.size
  · exact hgr.block b hbl (fun e => hb (by injection e))
  · rw [Array.getElem?_eq_none (by omega), Array.getElem?_eq_none (by omega)]
set_option maxHeartbeats 2000000 in
theorem remove1_any (h : DiskAt w Ft d m gs rv D M) (hlt : ∀ b, Ft b → b < w.heap.size) {s : ByteArray} (hs : s.size ≤ 24) {g : Nat} (hg : gs s.data.toList = some g) (p q : Nat)
    (hp : w.heap[p]? = some (.cells #[.pointer (some ⟨d, 0, none⟩)] 24 (0, 0))) (hq : w.heap[q]? = some (.cells #[.string s] 9 (0, 0))) :
    Calls Tryz.prog 60 #[.pointer (some ⟨p, 0, none⟩), .pointer (some ⟨q, 0, none⟩)] w (Retd (PutR w Ft d (M.del s.data.toList))) := by
  have h0 : DiskAt w.drew Ft d m gs rv D M := h.keep fun _ _ => rfl
  have hdr : ∀ ty, ∃ w', (Builtin.delete_ #[45, 9] ty #[.map (some m), .string s]).run Tryz.prog w.drew = .ok (.tuple #[]) w' ∧ PutR w Ft d (M.del s.data.toList) w' := fun ty => by
    obtain ⟨w', h1, h2, h3, h4⟩ := h0.drop hlt hs hg ty
    have hdm : d ≠ m := fun e => by have h9 := h.tagd; rw [e, h.tagm] at h9; cases h9
    exact ⟨w', h1, h3.block d h.lt (fun e => hdm (by injection e)), Ft, ⟨h3.os, h3.tape, h3.output, h3.size, fun k hk hn => h3.block k hk (fun e => hn (by injection e with e; exact e ▸ h.fm)), fun _ x => .inl x⟩, ⟨fun b hb => by rw [h4]; exact hlt b hb, _, _, _, _, h2⟩⟩
  obtain ⟨w9, hrun, hput⟩ := hdr 0
  have hmp : ∀ {k : Nat} {cs : Array Value} {t : TypeId} {fr : Nat × Nat}, w.heap[k]? = some (.cells cs t fr) → some k ≠ some m := fun hk e => by
    injection e with e
    have h9 := tag_of hk
    rw [e, h.tagm] at h9
    cases h9
  have q1 := cell_row (row := some m) (w := w.drew) (Go.Joins.cell_of_block (w := w.drew) hp 0) (hmp hp)
  have q2 := cell_row (row := some m) (w := w.drew) (Go.Joins.cell_of_block (w := w.drew) hq 0) (hmp hq)
  have q3 := cell_row (row := some m) (w := w.drew) (b := d) (o := 0) h.c0 (hmp h.disk)
  have hrow : RowR (some m) w.drew w9 := by
    obtain ⟨w', h1, h2, h3, h4⟩ := h0.drop hlt hs hg 0
    rw [hrun] at h1
    injection h1 with _ h1
    rw [h1]; exact h3
  have HP := Lib.hid hput
  clear h h0 hlt hp hq hdr hmp hput
  go_enter Tryz.func60, Tryz.ntmps60
  go_wp2_with fail
  refine wp_region_OT (RowR (some m)) (RowR.refl _) (RowR.trans _) [] (.pure [0, 1, 2, 3, 4] (.step 5 (.tail []))) (by kernel_rfl) (by kernel_rfl) (fun _ d _ _ _ h => by cases d <;> exact h) ?_
  generalize w.drew = w0 at *
  refine ot_pure ?_
  simp only [atNats, List.filterMap_cons, List.filterMap_nil, List.getElem?_toArray, List.getElem?_cons_succ, List.getElem?_cons_zero]
  show wpQuiet _ _ _ _ [_, _, _, _, _] _
  try simp only [List.getElem_toArray, List.getElem_cons_succ, List.getElem_cons_zero, Act.put, List.setIfInBounds_toArray, List.set_cons_succ, List.set_cons_zero] at *
  repeat (go_big_quiet_step (fail))
  refine wpQuiet_nil ?_
  clear q1 q2 q3
  refine ot_act rfl rfl (fun K hK => ?_)
  refine wp_delete _ _ _ _ rfl _ _ rfl rfl hrun ?_
  refine hK _ _ (.inr hrow) ?_
  clear hK K hrow hrun
  refine ot_end ?_
  go_wp2_with fail
  go_end0
  exact ⟨⟨_, rfl⟩, HP.out⟩
set_option maxHeartbeats 4000000 in
theorem remove_any (h : DAt w Ft d M) (s : ByteArray) (hs : s.size ≤ 140737488351232) : Calls Tryz.prog 36 #[.pointer (some ⟨d, 0, none⟩), .string s] w (AppR w Ft d (M.rem s.data.toList)) := by
  have H := Lib.hid h
  obtain ⟨W2, hW2, hb2, hz2, p0, p1⟩ := two_new w (.cells #[.pointer (some ⟨d, 0, none⟩)] 24) (.cells #[.string s] 9)
  have H2 := Lib.hid (h.below hb2)
  obtain ⟨hlt, m, gs, rv, D, h⟩ := h.below hb2
  have HD := Lib.hid h
  have HLT := Lib.hid hlt
  have HO := Lib.hid (open_any h hlt s hs)
  have HB2 := Lib.hid hb2
  have HW := Lib.hid hW2
  have HX := Lib.hid (And.intro p0 p1)
  have x0 := Go.Joins.cell_of_block p0 0
  have x1 := Go.Joins.cell_of_block p1 0
  obtain ⟨R, hR⟩ : ∃ R, R = M.rem s.data.toList := ⟨_, rfl⟩
  have HR := Lib.hid hR
  rw [← hR]
  have HZ2 := Lib.hid hz2
  clear h hlt hR hb2 hW2 hz2 p0 p1
  have hmf : ∀ (fn : Fn) (first cap : Array Value) (w : World), (Instr.makeFunc fn first cap).run Tryz.prog w = .ok (.func fn first cap) w := fun _ _ _ _ => rfl
  go_enter Tryz.func36, Tryz.ntmps36
  go_wp2_with fail
  rw [← HW.out]
  refine HO.out.mono ?_
  rintro e w1 ⟨rfl, hb1⟩
  have H1 := Lib.hid (HD.out.below HLT.out hb1)
  have HB1 : Hid (Below w.heap.size w w1) := Lib.hid (HB2.out.trans (hb1.mono HB2.out.size))
  have HLT1 : Hid (∀ b, Ft b → b < w1.heap.size) := Lib.hid fun b hb => by have := HLT.out b hb; have := hb1.size; omega
  have p0 := (hb1.block _ (show w.heap.size < W2.heap.size by have := HZ2.out; omega)).trans HX.out.1
  have p1 := (hb1.block _ (show w.heap.size + 1 < W2.heap.size by have := HZ2.out; omega)).trans HX.out.2
  have HX1 := Lib.hid (And.intro p0 p1)
  clear x0 x1
  have x0 := Go.Joins.cell_of_block p0 0
  have x1 := Go.Joins.cell_of_block p1 0
  clear hb1 p0 p1
  by_cases hz : refM M [s] = 0
  · obtain ⟨hg, hbn, h24⟩ := refM_zero hz
    cases hgs : gs s.data.toList with
    | none =>
      have hov : openV M gs s = (.pointer none, 4) := by unfold openV; rw [if_pos hz, hgs]
      have hop : R = (4, M) := by
        rw [HR.out]; unfold DiskM.rem; rw [hg, hbn]
        have hok := HD.out.ok s.data.toList
        rw [hgs] at hok
        cases hf : M.fs s.data.toList with
        | none => rfl
        | some f => rw [hf] at hok; cases hok
      have HOP := Lib.hid hop
      rw [hov]
      clear hop hov hgs hz
      go_wp2_with fail
      go_ret
      rw [HOP.out]
      exact ⟨rfl, Ft, Gr.of_below HB1.out, H.out.below HB1.out⟩
    | some g =>
      obtain ⟨f, hf, hF⟩ := H1.out.ex hgs
      have hov : openV M gs s = (.pointer (some ⟨g, 0, none⟩), 0) := by unfold openV; rw [if_pos hz, hgs]
      have hop : R = if M.left = 0 then (90, M.off) else (0, (M.del s.data.toList).spent) := by rw [HR.out]; unfold DiskM.rem; rw [hg, hbn, hf]; rfl
      have HOP := Lib.hid hop
      rw [hov]
      have HGS := Lib.hid hgs
      have hx1 := HX1.out
      have hpd : w.heap.size ≠ d ∧ w.heap.size + 1 ≠ d := ⟨fun e => (by have := H1.out.disk; rw [← e, hx1.1] at this; cases this), fun e => (by have := H1.out.disk; rw [← e, hx1.2] at this; cases this)⟩
      clear hop hov hgs hz hF hf hx1
      obtain ⟨z, hz⟩ : ∃ z, z = w.heap.size := ⟨_, rfl⟩
      have HZ := Lib.hid hz
      go_wp2_with fail
      rw [← hz] at HX1 hpd ⊢
      by_cases hl : M.left = 0
      · refine (change_off0 H1.out hg hl _).mono ?_
        rintro e w3 ⟨rfl, h3, hg3, hz3⟩
        have hop1 : R = (90, M.off) := by rw [HOP.out, if_pos hl]
        have HE : Hid (AppR w Ft d R (.returned (.int .i64 90)) w3) := Lib.hid ⟨by rw [hop1], Ft, (Gr.of_below HB1.out).trans (Gr.of_grown hg3 H1.out.fd), by rw [hop1]; exact ⟨fun b hb => by rw [hz3]; exact HLT1.out b hb, _, _, _, _, h3⟩⟩
        clear hop1 h3 hg3 hz3 hz
        go_wp2_with fail
        go_ret
        exact HE.out
      · refine (change_do H1.out hg hl 60 #[.pointer (some ⟨z, 0, none⟩), .pointer (some ⟨z + 1, 0, none⟩)] enters_remove1 _ (fun w4 => ∃ w3, Gr Ft w1 Ft w3 ∧ PutR w3 Ft d (M.spent.del s.data.toList) w4) ?_).mono ?_
        · intro w3 h3 hg3 hz3
          refine (remove1_any h3 (fun b hb => by rw [hz3]; exact HLT1.out b hb) h24 HGS.out z (z + 1) ((hg3.block _ (Array.getElem?_eq_some_iff.1 HX1.out.1).1 (fun e => hpd.1 (by injection e))).trans HX1.out.1) ((hg3.block _ (Array.getElem?_eq_some_iff.1 HX1.out.2).1 (fun e => hpd.2 (by injection e))).trans HX1.out.2)).mono ?_
          rintro e w4 ⟨hx, hpp⟩
          exact ⟨hx, w3, Gr.of_grown hg3 h3.fd, hpp⟩
        · rintro e w4 ⟨rfl, w3, hg3, -, Ft2, hg4, hd4⟩
          have hop1 : R = (0, (M.del s.data.toList).spent) := by rw [HOP.out, if_neg hl]
          have HE : Hid (AppR w Ft d R (.returned (.int .i64 0)) w4) := Lib.hid ⟨by rw [hop1], Ft2, ((Gr.of_below HB1.out).trans hg3).trans hg4, by rw [hop1]; exact hd4⟩
          clear hop1 hg3 hg4 hd4 hz
          go_wp2_with fail
          go_ret
          exact HE.out
  · have hov : openV M gs s = (.pointer none, refM M [s]) := by unfold openV; rw [if_neg hz]
    have hop : R = (refM M [s], M) := by rw [HR.out, rem_ref hz]
    obtain ⟨r, hr⟩ : ∃ r, r = refM M [s] := ⟨_, rfl⟩
    rw [hov]
    rw [← hr] at hop hz ⊢
    have hd : (r == 0) = false := by simpa using hz
    have HOP := Lib.hid hop
    clear hop hov hr hz
    go_wp2_with fail
    go_ret
    rw [HOP.out]
    exact ⟨rfl, Ft, Gr.of_below HB1.out, H.out.below HB1.out⟩
end
end Go.Proofs.YtflkaladkbkbgaaGreat

/- Rename, whole. -/
namespace Go.Proofs.YtflkaladkbkbgaaGreat
set_option linter.unusedVariables false
set_option linter.unusedSimpArgs false
open Go.RowKit Go.Maps
set_option maxRecDepth 100000
theorem enters_rename1 : EntersF 96 := fun _ _ => by simp [callFunc, go_sem, Tryz.func96, Tryz.f96]
def DiskM.ren (M : DiskM) (a b : List UInt8) : Int × DiskM :=
  if M.gone then (90, M) else if badNm a || badNm b then (1, M)
  else match M.fs a with
    | none => (4, M)
    | some f => if a = b then (1, M) else if M.left = 0 then (90, M.off) else (0, ((M.del a).put b f).spent)
section
variable {w : World} {Ft : Nat → Prop} {d m : Nat} {gs : List UInt8 → Option Nat} {rv : List UInt8 → Value} {D : DataW Unit} {M : DiskM}
def openV1 (M : DiskM) (gs : List UInt8 → Option Nat) (s t : ByteArray) : Value × Int :=
  if refM M [t, s] = 0 then (match gs s.data.toList with | none => (.pointer none, 4) | some g => (.pointer (some ⟨g, 0, none⟩), 0)) else (.pointer none, refM M [t, s])
theorem refM_two {M : DiskM} {s t : ByteArray} (h : refM M [t, s] = 0) : M.gone = false ∧ badNm s.data.toList = false ∧ badNm t.data.toList = false ∧ s.size ≤ 24 ∧ t.size ≤ 24 := by
  unfold refM at h
  cases hg : M.gone
  · rw [hg] at h
    cases hb : badNm s.data.toList
    · cases hc : badNm t.data.toList
      · refine ⟨rfl, rfl, rfl, ?_, ?_⟩
        · unfold badNm at hb; simp at hb; exact hb.2
        · unfold badNm at hc; simp at hc; exact hc.2
      · simp [hc] at h
    · simp [hb] at h
  · rw [hg] at h; simp at h
theorem ren_ref {M : DiskM} {s t : ByteArray} (h : refM M [t, s] ≠ 0) : M.ren s.data.toList t.data.toList = (refM M [t, s], M) := by
  unfold refM at h ⊢
  unfold DiskM.ren
  cases hg : M.gone
  · rw [hg] at h
    cases hb : badNm s.data.toList
    · cases hc : badNm t.data.toList
      · exact absurd (by simp [hb, hc]) h
      · simp [hb, hc]
    · simp [hb]
  · simp
theorem strs_two {w : World} {S : Nat → Prop} {b : Nat} {s t : ByteArray} (h0 : w.cell? ⟨b, 0, none⟩ = some (.string t)) (h1 : w.cell? ⟨b, 1, none⟩ = some (.string s)) (hS : S b) (ht : t.size ≤ 140737488351232) (hs : s.size ≤ 140737488351232) : StrsAt w S (some ⟨b, 0, none⟩) [t, s] := fun _ => ⟨b, 0, rfl, hS, fun i hi => by
  match i, hi with
  | 0, _ => exact ⟨h0, ht⟩
  | 1, _ => exact ⟨h1, hs⟩⟩
/-- All blocks that are there stay, but b. -/
def But1 (b : Nat) (w w' : World) : Prop := w'.os = w.os ∧ w'.tape = w.tape ∧ w'.output = w.output ∧ w.heap.size ≤ w'.heap.size ∧ ∀ k, k < w.heap.size → k ≠ b → w'.heap[k]? = w.heap[k]?
set_option maxHeartbeats 2000000 in
theorem open_any1 (h : DiskAt w Ft d m gs rv D M) (hlt : ∀ b, Ft b → b < w.heap.size) (s t : ByteArray) (hs : s.size ≤ 140737488351232) (ht : t.size ≤ 140737488351232) (b : Nat) (hbF : ¬ Ft b) (hb : w.heap[b]? = some (.cells #[.string t] 9 (0, 0))) :
    Calls Tryz.prog 52 #[.pointer (some ⟨d, 0, none⟩), .string s, .slice (some ⟨b, 0, none⟩) 1 1] w fun e w' => e = .returned (.tuple #[(openV1 M gs s t).1, .int .i64 (openV1 M gs s t).2]) ∧ But1 b w w' := by
  obtain ⟨i0, hi, hz0, hz1, hz2⟩ := info_parts Tryz.infoSF
  have hown : w.ownsRow 0 9 1 (.slice (some ⟨b, 0, none⟩) 1 1) 1 [.string t] := ⟨rfl, .inr ⟨b, 1, _, rfl, Nat.zero_le _, hb, Nat.le_refl _, by decide, rfl, rfl⟩⟩
  have hbl : b < w.heap.size := (Array.getElem?_eq_some_iff.1 hb).1
  have h1 := World.ownsRow.kept hown (World.grownBy_alloc w (.cells #[.string s] 9) none) (by simp [Value.ownBlock])
  have H := Lib.hid h
  have HLT := Lib.hid hlt
  obtain ⟨O, hO⟩ : ∃ O, O = openV1 M gs s t := ⟨_, rfl⟩
  have HO := Lib.hid hO
  rw [← hO]
  have HS := Lib.hid (And.intro hs ht)
  have HBF := Lib.hid hbF
  clear h hO hlt hs ht hbF
  go_enter Tryz.func52, Tryz.ntmps52
  go_wp2_with (at_builtin; go_must (refine wpList_append_own _ rfl _ _ 60 rfl 0 9 i0 (.string ⟨#[]⟩) 1 16 Tryz.underlying60 hi hz0 hz1 hz2 rfl (by decide) _ 1 [.string t] rfl h1 ⟨w.heap.size, 0, none⟩ 1 1 [.string s] rfl rfl ?_ (fun u hu => by simp at hu; subst hu; rfl) (by unfold maxLen; omega) (by omega) (Nat.zero_le _) ?_))
  · intro j u hj
    have : j = 0 := by have := (List.getElem?_eq_some_iff.1 hj).1; simp at this; omega
    subst this
    simp at hj
    subst hj
    rw [addr_addY]
    exact Go.Joins.cell_of_block (heap_alloc_new w (.cells #[.string s] 9)) 0
  · intro v' w2 hv2 hg2 _
    have hbut : But1 b w w2 := ⟨hg2.os, hg2.tape, hg2.output, by have := hg2.size; simp at this; omega, fun k hk hn => (hg2.block k (by simp; omega) (fun e => hn (by simpa [Value.ownBlock] using e))).trans (Below.heap_alloc w _ k hk)⟩
    have h2 := H.out.keep (w' := w2) fun k hk => hbut.2.2.2.2 k (HLT.out k hk) (fun e => HBF.out (e ▸ hk))
    obtain ⟨g, cap, rfl⟩ : ∃ g cap, v' = .slice (some ⟨g, 0, none⟩) 2 cap := by
      rcases hv2.2 with ⟨-, h0⟩ | ⟨g, cap, cur, hv, -⟩
      · omega
      · exact ⟨g, cap, hv⟩
    have e0 := World.ownsRow.cells (g := g) hv2 rfl 0 (.string t) (by simp)
    have e1 := World.ownsRow.cells (g := g) hv2 rfl 1 (.string s) (by simp)
    rw [addr_addY] at e0 e1
    have HB := Lib.hid hbut
    have HR := Lib.hid (refusal_any h2 (some ⟨g, 0, none⟩) cap [t, s] (fun _ => True) (strs_two e0 e1 trivial HS.out.2 HS.out.1) (by simp))
    have HH2 := Lib.hid h2
    clear hbut h2 hg2 hv2 e0 e1 hown h1
    go_wp2_with fail
    refine HR.out.mono ?_
    rintro e u ⟨rfl, rfl⟩
    obtain ⟨r, hr⟩ : ∃ r, r = refM M [t, s] := ⟨_, rfl⟩
    have HRM := Lib.hid hr
    rw [← hr]
    clear hr HR
    by_cases hz : r = 0
    · subst hz
      obtain ⟨-, -, -, h24, -⟩ := refM_two HRM.out.symm
      have hl := HH2.out.look s (by unfold maxLen; omega)
      have c0 := HH2.out.c0
      have hop : O = (match gs s.data.toList with | none => (.pointer none, 4) | some g => (.pointer (some ⟨g, 0, none⟩), 0)) := by rw [HO.out]; unfold openV1; rw [if_pos HRM.out.symm]
      clear h24
      cases hgs : gs s.data.toList with
      | none =>
        rw [hgs] at hl hop
        have HOP := Lib.hid hop
        clear hop hgs
        have hl' : (Instr.lookup 45 (.map (some m)) (.string s) false).run Tryz.prog u = .ok (.pointer none) u := hl
        clear hl
        go_wp2_with fail
        go_ret2
        exact ⟨by rw [HOP.out]; rfl, HB.out⟩
      | some gg =>
        rw [hgs] at hl hop
        have HOP := Lib.hid hop
        clear hop hgs
        have hl' : (Instr.lookup 45 (.map (some m)) (.string s) false).run Tryz.prog u = .ok (.pointer (some ⟨gg, 0, none⟩)) u := hl
        clear hl
        go_wp2_with fail
        go_ret2
        exact ⟨by rw [HOP.out]; rfl, HB.out⟩
    · have hd : (r == 0) = false := by simpa using hz
      have hop : O = (.pointer none, r) := by rw [HO.out]; unfold openV1; rw [if_neg (by rw [← HRM.out]; exact hz), HRM.out]
      have HOP := Lib.hid hop
      clear hop
      go_wp2_with fail
      go_ret2
      exact ⟨by rw [HOP.out]; rfl, HB.out⟩
/-- What is behind a file's taking another one's name. -/
theorem DiskAt.rename (h : DiskAt w Ft d m gs rv D M) (hlt : ∀ b, Ft b → b < w.heap.size) {s t : ByteArray} (hs : s.size ≤ 24) (ht : t.size ≤ 24) (hbt : badNm t.data.toList = false) (hst : s.data.toList ≠ t.data.toList) {g : Nat} {f : FileM} (hg : gs s.data.toList = some g) (hf : M.fs s.data.toList = some f) (ty : TypeId) :
    ∃ w1, (Builtin.delete_ #[45, 9] ty #[.map (some m), .string s]).run Tryz.prog w = .ok (.tuple #[]) w1 ∧ w.grownBy w1 (some m) ∧ w1.heap.size = w.heap.size ∧
      ∃ w2, (Instr.mapUpdate 45 (.map (some m)) (.string t) (.pointer (some ⟨g, 0, none⟩))).run Tryz.prog w1.drew = .ok () w2 ∧ w1.grownBy w2 (some m) ∧ PutR w Ft d ((M.del s.data.toList).put t.data.toList f) w2 := by
  obtain ⟨w1, h1, h2, h3, h4⟩ := h.drop hlt hs hg ty
  have hF := h.file _ g f hg hf
  have hgm : g ≠ m := fun e => by have h9 := hF.tagg; rw [e, h.tagm] at h9; cases h9
  have hrm : ∀ k, (rv s.data.toList).ownBlock = some k → k ≠ m := fun k hk e => by have h9 := hF.own.tag hk; rw [e, h.tagm] at h9; cases h9
  have h2d : DiskAt w1.drew Ft d m (fun x => if x = s.data.toList then none else gs x) rv (D.del (.string s.data.toList)) (M.del s.data.toList) := h2.keep fun _ _ => rfl
  have hF1 : FileAt w1.drew Ft g (rv s.data.toList) f := hF.keep (fun k hk => h3.block k (by rcases hk with rfl | hk; exact hF.lt; exact hF.own.ltk hk) (fun e => by
    injection e with e
    rcases hk with rfl | hk
    · exact hgm e
    · exact hrm k hk e)) (fun _ x => x)
  have hcn : (M.del s.data.toList).cnt < 256 := by
    have hsm : (M.fs s.data.toList).isSome = true := by rw [hf]; rfl
    have h5 := size_del (k := .string s.data.toList) (h.map.tidy fkeyed)
    rw [h.has, hg, h.cnt] at h5
    have h6 : (M.del s.data.toList).cnt = M.cnt - 1 := by simp [DiskM.del, hsm]
    have := h.c256
    simp at h5
    omega
  have c : Cand w1.drew Ft d m (fun x => if x = s.data.toList then none else gs x) rv (D.del (.string s.data.toList)) (M.del s.data.toList) t.data.toList g (rv s.data.toList) f := ⟨h2d, hF1, hbt, .inr ⟨fun a ha => by
      by_cases e : a = s.data.toList
      · rw [if_pos e] at ha; cases ha
      · rw [if_neg e] at ha; exact e (h.inj _ _ _ ha hg), fun a k ha hk hv => by
      by_cases e : a = s.data.toList
      · rw [if_pos e] at ha; cases ha
      · rw [if_neg e] at ha; exact e (h.rows a _ k ha (by rw [hg]; rfl) hk hv), .inr hcn⟩⟩
  obtain ⟨w2, hrun, hmap2, hg2⟩ := h2d.map.update fkeyed Tryz.underlying45 (by unfold maxLen; have := h2d.c256; omega) (fkey t (by unfold maxLen; omega)) (fileR_mk g)
  have hsz2 := hg2.size
  have hfin := DiskAt.putFile c (w' := w2) (Ft' := Ft) (v' := rv s.data.toList) (f' := f) (fun _ x => x) hmap2 (hF1.keep (fun k hk => hg2.block k (by rcases hk with rfl | hk; exact hF1.lt; exact hF1.own.ltk hk) (fun e => by
    injection e with e
    rcases hk with rfl | hk
    · exact hgm e
    · exact hrm k hk e)) fun _ x => x) (fun k hk => .inl hk) (fun b hb _ hbm _ => hg2.block b hb (fun e => hbm (by injection e)))
  have hdm : d ≠ m := fun e => by have h9 := h.tagd; rw [e, h.tagm] at h9; cases h9
  have hgd : w1.grownBy w2 (some m) := ⟨hg2.os, hg2.tape, hg2.output, hg2.size, hg2.block⟩
  have hz12 : w1.heap.size ≤ w2.heap.size := hg2.size
  exact ⟨w1, h1, h3, h4, w2, hrun, hgd, (hgd.block d (by rw [h4]; exact h.lt) (fun e => hdm (by injection e))).trans (h3.block d h.lt (fun e => hdm (by injection e))), Ft, ⟨hgd.os.trans h3.os, hgd.tape.trans h3.tape, hgd.output.trans h3.output, by omega, fun k hk hn => (hgd.block k (by omega) (fun e => hn (by injection e with e; exact e ▸ h.fm))).trans (h3.block k hk (fun e => hn (by injection e with e; exact e ▸ h.fm))), fun _ x => .inl x⟩, ⟨fun b hb => by have := hlt b hb; omega, _, _, _, _, hfin⟩⟩
end
end Go.Proofs.YtflkaladkbkbgaaGreat

/- Rename, whole: its walk. -/
namespace Go.Proofs.YtflkaladkbkbgaaGreat
set_option linter.unusedVariables false
set_option linter.unusedSimpArgs false
open Go.RowKit Go.Maps
set_option maxRecDepth 100000
section
variable {w : World} {Ft : Nat → Prop} {d m : Nat} {gs : List UInt8 → Option Nat} {rv : List UInt8 → Value} {D : DataW Unit} {M : DiskM}
set_option maxHeartbeats 4000000 in
theorem rename1_any (h : DiskAt w Ft d m gs rv D M) (hlt : ∀ b, Ft b → b < w.heap.size) {s t : ByteArray} (hs : s.size ≤ 24) (ht : t.size ≤ 24) (hbt : badNm t.data.toList = false) (hst : s.data.toList ≠ t.data.toList) {g : Nat} {f : FileM} (hg : gs s.data.toList = some g) (hf : M.fs s.data.toList = some f) (p0 p1 p2 p3 : Nat)
    (hp0 : w.heap[p0]? = some (.cells #[.pointer (some ⟨d, 0, none⟩)] 24 (0, 0))) (hp1 : w.heap[p1]? = some (.cells #[.string s] 9 (0, 0))) (hp2 : w.heap[p2]? = some (.cells #[.pointer (some ⟨g, 0, none⟩)] 69 (0, 0))) (hp3 : w.heap[p3]? = some (.cells #[.string t] 9 (0, 0))) :
    Calls Tryz.prog 96 #[.pointer (some ⟨p0, 0, none⟩), .pointer (some ⟨p1, 0, none⟩), .pointer (some ⟨p2, 0, none⟩), .pointer (some ⟨p3, 0, none⟩)] w (Retd (PutR w Ft d ((M.del s.data.toList).put t.data.toList f))) := by
  have h0 : DiskAt w.drew Ft d m gs rv D M := h.keep fun _ _ => rfl
  obtain ⟨w1, hrun1, hg1, hz1, w2, hrun2, hg2, hput⟩ := h0.rename hlt hs ht hbt hst hg hf 0
  have hput' : PutR w Ft d ((M.del s.data.toList).put t.data.toList f) w2 := by
    obtain ⟨a, Ft', b, c⟩ := hput
    exact ⟨a, Ft', ⟨b.os, b.tape, b.output, b.size, b.block, b.ft⟩, c⟩
  have hmp : ∀ {k : Nat} {cs : Array Value} {t : TypeId} {fr : Nat × Nat}, w.heap[k]? = some (.cells cs t fr) → some k ≠ some m := fun hk e => by
    injection e with e
    have h9 := tag_of hk
    rw [e, h.tagm] at h9
    cases h9
  have q1 := cell_row (row := some m) (w := w.drew) (Go.Joins.cell_of_block (w := w.drew) hp0 0) (hmp hp0)
  have q2 := cell_row (row := some m) (w := w.drew) (Go.Joins.cell_of_block (w := w.drew) hp1 0) (hmp hp1)
  have q3 := cell_row (row := some m) (w := w.drew) (b := d) (o := 0) h.c0 (hmp h.disk)
  have hk1 : ∀ {k : Nat} {cs : Array Value} {t : TypeId} {fr : Nat × Nat}, w.heap[k]? = some (.cells cs t fr) → w1.drew.heap[k]? = some (.cells cs t fr) := fun hk => (hg1.block _ (Array.getElem?_eq_some_iff.1 hk).1 (hmp hk)).trans hk
  have r0 := cell_row (row := none) (w := w1.drew) (Go.Joins.cell_of_block (hk1 hp0) 0) (by simp)
  have r2 := cell_row (row := none) (w := w1.drew) (Go.Joins.cell_of_block (hk1 hp2) 0) (by simp)
  have r3 := cell_row (row := none) (w := w1.drew) (Go.Joins.cell_of_block (hk1 hp3) 0) (by simp)
  have rd := cell_row (row := none) (w := w1.drew) (Go.Joins.cell_of_block (hk1 h.disk) 0) (by simp)
  have HP := Lib.hid hput'
  have HR := Lib.hid (And.intro r0 (And.intro r2 (And.intro r3 rd)))
  have HRUN2 := Lib.hid hrun2
  clear h h0 hlt hp0 hp1 hp2 hp3 hmp hput hput' hk1 r0 r2 r3 rd hg2 hz1 hrun2
  go_enter Tryz.func96, Tryz.ntmps96
  go_wp2_with fail
  refine wp_region_OT (RowR (some m)) (RowR.refl _) (RowR.trans _) [] (.pure [0, 1, 2, 3, 4] (.step 5 (.tail []))) (by kernel_rfl) (by kernel_rfl) (fun _ d _ _ _ h => by cases d <;> exact h) ?_
  generalize w.drew = w0 at *
  refine ot_pure ?_
  simp only [atNats, List.filterMap_cons, List.filterMap_nil, List.getElem?_toArray, List.getElem?_cons_succ, List.getElem?_cons_zero]
  show wpQuiet _ _ _ _ [_, _, _, _, _] _
  try simp only [List.getElem_toArray, List.getElem_cons_succ, List.getElem_cons_zero, Act.put, List.setIfInBounds_toArray, List.set_cons_succ, List.set_cons_zero] at *
  repeat (go_big_quiet_step (fail))
  refine wpQuiet_nil ?_
  clear q1 q2 q3
  refine ot_act rfl rfl (fun K hK => ?_)
  refine wp_delete _ _ _ _ rfl _ _ rfl rfl hrun1 ?_
  refine hK _ _ (.inr hg1) ?_
  clear hK K hg1 hrun1
  refine ot_end ?_
  go_wp2_with fail
  refine wp_region_OT (RowR none) (RowR.refl _) (RowR.trans _) [6] (.pure [0, 1, 2, 3, 4, 5] (.tail [6])) (by kernel_rfl) (by kernel_rfl) (fun _ d _ _ _ h => by cases d <;> exact h) ?_
  obtain ⟨r0, r2, r3, rd⟩ := HR.out
  have hrun2 := HRUN2.out
  clear HR HRUN2
  generalize w1.drew = w1' at *
  refine ot_pure ?_
  simp only [atNats, List.filterMap_cons, List.filterMap_nil, List.getElem?_toArray, List.getElem?_cons_succ, List.getElem?_cons_zero]
  show wpQuiet _ _ _ _ [_, _, _, _, _, _] _
  try simp only [List.getElem_toArray, List.getElem_cons_succ, List.getElem_cons_zero, Act.put, List.setIfInBounds_toArray, List.set_cons_succ, List.set_cons_zero] at *
  repeat (go_big_quiet_step (fail))
  refine wpQuiet_nil ?_
  refine ot_last rfl (fun K hK => ?_)
  go_simp
  refine hK _ _ ?_
  clear hK K
  refine ot_end ?_
  go_wp2_with fail
  go_end0
  exact ⟨⟨_, rfl⟩, HP.out⟩
set_option maxHeartbeats 4000000 in
theorem rename_any (h : DAt w Ft d M) (s t : ByteArray) (hs : s.size ≤ 140737488351232) (ht : t.size ≤ 140737488351232) : Calls Tryz.prog 78 #[.pointer (some ⟨d, 0, none⟩), .string s, .string t] w (AppR w Ft d (M.ren s.data.toList t.data.toList)) := by
  have H := Lib.hid h
  obtain ⟨W4, hW4, hb4, hz4, p0, p1, p2, p3⟩ := four_new w (.cells #[.pointer (some ⟨d, 0, none⟩)] 24) (.cells #[.string s] 9) (.cells #[.string t] 9) (.cells #[.string t] 9)
  have hwl := h.1
  obtain ⟨hlt, m, gs, rv, D, h⟩ := h.below hb4
  have hbF : ¬ Ft (w.heap.size + 3) := fun hf => by have := hwl _ hf; omega
  have HD := Lib.hid h
  have HLT := Lib.hid hlt
  have HO := Lib.hid (open_any1 h hlt s t hs ht (w.heap.size + 3) hbF p3)
  have HB4 := Lib.hid hb4
  have HW := Lib.hid hW4
  have HX := Lib.hid (And.intro p0 (And.intro p1 p2))
  have x0 := Go.Joins.cell_of_block p0 0
  have x1 := Go.Joins.cell_of_block p1 0
  have x2 := Go.Joins.cell_of_block p2 0
  obtain ⟨R, hR⟩ : ∃ R, R = M.ren s.data.toList t.data.toList := ⟨_, rfl⟩
  have HR := Lib.hid hR
  rw [← hR]
  have HZ4 := Lib.hid hz4
  have HWL := Lib.hid hwl
  clear h hlt hR hb4 hW4 hz4 p0 p1 p2 p3 hwl hbF
  have hmf : ∀ (fn : Fn) (first cap : Array Value) (w : World), (Instr.makeFunc fn first cap).run Tryz.prog w = .ok (.func fn first cap) w := fun _ _ _ _ => rfl
  go_enter Tryz.func78, Tryz.ntmps78
  go_wp2_with fail
  rw [← HW.out]
  refine HO.out.mono ?_
  rintro e w1 ⟨rfl, hbut⟩
  have H1 := Lib.hid (HD.out.keep (w' := w1) fun k hk => hbut.2.2.2.2 k (HLT.out k hk) (fun e => by have := HWL.out k hk; omega))
  have hb1 : Below w.heap.size w w1 := ⟨hbut.1.trans HB4.out.os, hbut.2.1.trans HB4.out.tape, hbut.2.2.1.trans HB4.out.output, by have := hbut.2.2.2.1; have := HZ4.out; omega, fun i hi => (hbut.2.2.2.2 i (by have := HZ4.out; omega) (by omega)).trans (HB4.out.block i hi)⟩
  have HB1 := Lib.hid hb1
  have HLT1 : Hid (∀ b, Ft b → b < w1.heap.size) := Lib.hid fun b hb => by have := HWL.out b hb; have := hb1.size; omega
  have hk1 : ∀ k, k < W4.heap.size → k ≠ w.heap.size + 3 → w1.heap[k]? = W4.heap[k]? := hbut.2.2.2.2
  have p0 := (hk1 _ (show w.heap.size < W4.heap.size by have := HZ4.out; omega) (by omega)).trans HX.out.1
  have p1 := (hk1 _ (show w.heap.size + 1 < W4.heap.size by have := HZ4.out; omega) (by omega)).trans HX.out.2.1
  have p2 := (hk1 _ (show w.heap.size + 2 < W4.heap.size by have := HZ4.out; omega) (by omega)).trans HX.out.2.2
  have HX1 := Lib.hid (And.intro p0 (And.intro p1 p2))
  clear x0 x1 x2
  have x0 : ∀ o : Obj, (w1.alloc o).cell? ⟨w.heap.size, 0, none⟩ = some (.pointer (some ⟨d, 0, none⟩)) := fun o => Lib.cell?_alloc_some o (Go.Joins.cell_of_block p0 0)
  have x1 : ∀ o : Obj, (w1.alloc o).cell? ⟨w.heap.size + 1, 0, none⟩ = some (.string s) := fun o => Lib.cell?_alloc_some o (Go.Joins.cell_of_block p1 0)
  have x2 : ∀ o : Obj, (w1.alloc o).cell? ⟨w.heap.size + 2, 0, none⟩ = some (.string t) := fun o => Lib.cell?_alloc_some o (Go.Joins.cell_of_block p2 0)
  have HX0 := Lib.hid (And.intro x0 (And.intro x1 x2))
  clear hbut hb1 hk1 p0 p1 p2
  by_cases hz : refM M [t, s] = 0
  · obtain ⟨hg, hbn, hbt, h24, h24t⟩ := refM_two hz
    cases hgs : gs s.data.toList with
    | none =>
      have hov : openV1 M gs s t = (.pointer none, 4) := by unfold openV1; rw [if_pos hz, hgs]
      have hop : R = (4, M) := by
        rw [HR.out]; unfold DiskM.ren; rw [hg, hbn, hbt]
        have hok := HD.out.ok s.data.toList
        rw [hgs] at hok
        cases hf : M.fs s.data.toList with
        | none => rfl
        | some f => rw [hf] at hok; cases hok
      have HOP := Lib.hid hop
      have HBA : Hid (Below w.heap.size w (w1.alloc (.cells #[.pointer none] 69))) := Lib.hid (HB1.out.alloc HB1.out.size _)
      rw [hov]
      clear hop hov hgs hz
      go_wp2_with fail
      go_ret
      rw [HOP.out]
      exact ⟨rfl, Ft, Gr.of_below HBA.out, H.out.below HBA.out⟩
    | some g =>
      obtain ⟨f, hf, hF⟩ := H1.out.ex hgs
      have hov : openV1 M gs s t = (.pointer (some ⟨g, 0, none⟩), 0) := by unfold openV1; rw [if_pos hz, hgs]
      rw [hov]
      have HGS := Lib.hid hgs
      have HF := Lib.hid hf
      have HBA : Hid (Below w.heap.size w (w1.alloc (.cells #[.pointer (some ⟨g, 0, none⟩)] 69))) := Lib.hid (HB1.out.alloc HB1.out.size _)
      by_cases hst : s = t
      · have hop : R = (1, M) := by rw [HR.out]; unfold DiskM.ren; rw [hg, hbn, hbt, hf, hst]; simp
        have HOP := Lib.hid hop
        subst hst
        clear hop hov hgs hz hF hf
        go_wp2_with fail
        all_goals try (exfalso; rename_i h; exact absurd rfl h)
        go_ret
        rw [HOP.out]
        exact ⟨rfl, Ft, Gr.of_below HBA.out, H.out.below HBA.out⟩
      · have hst2 : s.data.toList ≠ t.data.toList := fun e => hst (by
          have h1 : s.data = t.data := Array.toList_inj.1 e
          cases s; cases t; simp at h1; rw [h1])
        have hseq : (s.toList == t.toList) = false := by rw [ByteArray.toList_eq, ByteArray.toList_eq]; simpa using hst2
        have hop : R = if M.left = 0 then (90, M.off) else (0, ((M.del s.data.toList).put t.data.toList f).spent) := by rw [HR.out]; unfold DiskM.ren; rw [hg, hbn, hbt, hf]; simp only [Bool.or_self, Bool.false_eq_true, if_false, hst2]
        have HOP := Lib.hid hop
        obtain ⟨w2, hw2⟩ : ∃ W, W = w1.alloc (.cells #[.pointer (some ⟨g, 0, none⟩)] 69) := ⟨_, rfl⟩
        have HW2 := Lib.hid hw2
        have hpf : w2.heap[w1.heap.size]? = some (.cells #[.pointer (some ⟨g, 0, none⟩)] 69 (0, 0)) := by rw [hw2]; exact heap_alloc_new w1 _
        have hb12 : Below w1.heap.size w1 w2 := by rw [hw2]; exact (Below.refl _ _).alloc (Nat.le_refl _) _
        have h2 := H1.out.below HLT1.out hb12
        have hz2 := hb12.size
        have HLT2 : Hid (∀ b, Ft b → b < w2.heap.size) := Lib.hid fun b hb => by have := HLT1.out b hb; omega
        have HG2 : Hid (Gr Ft w Ft w2) := Lib.hid ((Gr.of_below HB1.out).trans (Gr.of_below hb12))
        have hkk : ∀ k cs t, w1.heap[k]? = some (Obj.cells cs t (0, 0)) → w2.heap[k]? = some (Obj.cells cs t (0, 0)) := fun k cs t hk => (hb12.block k (Array.getElem?_eq_some_iff.1 hk).1).trans hk
        have HX2 := Lib.hid (And.intro (hkk _ _ _ HX1.out.1) (And.intro (hkk _ _ _ HX1.out.2.1) (And.intro (hkk _ _ _ HX1.out.2.2) hpf)))
        have H2 := Lib.hid h2
        have hnd : ∀ (k : Nat) (x : Value) (t : TypeId), w2.heap[k]? = some (Obj.cells #[x] t (0, 0)) → k ≠ d := fun k x t hk e => by have := h2.disk; rw [← e, hk] at this; cases this
        have HND := Lib.hid hnd
        clear hop hov hgs hz hw2 hpf hb12 h2 hz2 hF hf hkk hnd
        go_wp2_with fail
        rw [← HW2.out]
        obtain ⟨z, hzz⟩ : ∃ z, z = w.heap.size := ⟨_, rfl⟩
        obtain ⟨p, hp⟩ : ∃ p, p = w1.heap.size := ⟨_, rfl⟩
        rw [← hzz, ← hp] at HX2
        rw [← hzz, ← hp]
        by_cases hl : M.left = 0
        · refine (change_off0 H2.out hg hl _).mono ?_
          rintro e w3 ⟨rfl, h3, hg3, hz3⟩
          have hop1 : R = (90, M.off) := by rw [HOP.out, if_pos hl]
          have HE : Hid (AppR w Ft d R (.returned (.int .i64 90)) w3) := Lib.hid ⟨by rw [hop1], Ft, HG2.out.trans (Gr.of_grown hg3 H2.out.fd), by rw [hop1]; exact ⟨fun b hb => by rw [hz3]; exact HLT2.out b hb, _, _, _, _, h3⟩⟩
          clear hop1 h3 hg3 hz3 hzz hp
          go_wp2_with fail
          go_ret
          exact HE.out
        · refine (change_do H2.out hg hl 96 #[.pointer (some ⟨z, 0, none⟩), .pointer (some ⟨z + 1, 0, none⟩), .pointer (some ⟨p, 0, none⟩), .pointer (some ⟨z + 2, 0, none⟩)] enters_rename1 _ (fun w4 => ∃ w3, Gr Ft w2 Ft w3 ∧ PutR w3 Ft d ((M.spent.del s.data.toList).put t.data.toList f) w4) ?_).mono ?_
          · intro w3 h3 hg3 hz3
            have hk3 : ∀ (k : Nat) (x : Value) (t : TypeId), w2.heap[k]? = some (Obj.cells #[x] t (0, 0)) → w3.heap[k]? = some (Obj.cells #[x] t (0, 0)) := fun k x t hk => (hg3.block k (Array.getElem?_eq_some_iff.1 hk).1 (fun e => HND.out k x t hk (by injection e))).trans hk
            refine (rename1_any h3 (fun b hb => by rw [hz3]; exact HLT2.out b hb) h24 h24t hbt hst2 HGS.out (show M.spent.fs _ = _ from HF.out) z (z + 1) p (z + 2) (hk3 _ _ _ HX2.out.1) (hk3 _ _ _ HX2.out.2.1) (hk3 _ _ _ HX2.out.2.2.2) (hk3 _ _ _ HX2.out.2.2.1)).mono ?_
            rintro e w4 ⟨hx, hpp⟩
            exact ⟨hx, w3, Gr.of_grown hg3 h3.fd, hpp⟩
          · rintro e w4 ⟨rfl, w3, hg3, -, Ft2, hg4, hd4⟩
            have hop1 : R = (0, ((M.del s.data.toList).put t.data.toList f).spent) := by rw [HOP.out, if_neg hl]
            have HE : Hid (AppR w Ft d R (.returned (.int .i64 0)) w4) := Lib.hid ⟨by rw [hop1], Ft2, (HG2.out.trans hg3).trans hg4, by rw [hop1]; exact hd4⟩
            clear hop1 hg3 hg4 hd4 hzz hp
            go_wp2_with fail
            go_ret
            exact HE.out
  · have hov : openV1 M gs s t = (.pointer none, refM M [t, s]) := by unfold openV1; rw [if_neg hz]
    have hop : R = (refM M [t, s], M) := by rw [HR.out, ren_ref hz]
    obtain ⟨r, hr⟩ : ∃ r, r = refM M [t, s] := ⟨_, rfl⟩
    rw [hov]
    rw [← hr] at hop hz ⊢
    have hd : (r == 0) = false := by simpa using hz
    have HOP := Lib.hid hop
    have HBA : Hid (Below w.heap.size w (w1.alloc (.cells #[.pointer none] 69))) := Lib.hid (HB1.out.alloc HB1.out.size _)
    clear hop hov hr hz
    go_wp2_with fail
    go_ret
    rw [HOP.out]
    exact ⟨rfl, Ft, Gr.of_below HBA.out, H.out.below HBA.out⟩
end
end Go.Proofs.YtflkaladkbkbgaaGreat
