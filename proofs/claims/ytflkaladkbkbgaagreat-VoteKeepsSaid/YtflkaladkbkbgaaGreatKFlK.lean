/- Append, whole. -/
import Derived.Test.YtflkaladkbkbgaaGreatKFlI
namespace Go.Proofs.YtflkaladkbkbgaaGreat
set_option linter.unusedVariables false
set_option linter.unusedSimpArgs false
open Go.RowKit Go.Maps
set_option maxRecDepth 100000
theorem app_ref {M : DiskM} {s : ByteArray} {b : List UInt8} (h : refM M [s] ≠ 0) : M.app s.data.toList b = (refM M [s], M) := by
  unfold refM at h ⊢
  unfold DiskM.app
  cases hg : M.gone
  · rw [hg] at h
    cases hb : badNm s.data.toList
    · exact absurd (by simp [hb]) h
    · simp [hb]
  · simp
/-- Four new blocks. -/
theorem four_new (w : World) (o0 o1 o2 o3 : Obj) : ∃ W, W = (((w.alloc o0).alloc o1).alloc o2).alloc o3 ∧ Below w.heap.size w W ∧ W.heap.size = w.heap.size + 4 ∧ W.heap[w.heap.size]? = some o0 ∧ W.heap[w.heap.size + 1]? = some o1 ∧ W.heap[w.heap.size + 2]? = some o2 ∧ W.heap[w.heap.size + 3]? = some o3 := by
  have e0 := heap_alloc_new w o0
  have z0 : (w.alloc o0).heap.size = w.heap.size + 1 := by simp
  have hb0 := (Below.refl w.heap.size w).alloc (Nat.le_refl _) o0
  generalize w.alloc o0 = w1 at *
  have e1 := heap_alloc_new w1 o1
  have k1 := Below.heap_alloc w1 o1
  have z1 : (w1.alloc o1).heap.size = w1.heap.size + 1 := by simp
  have hb1 := hb0.alloc (by omega) o1
  generalize w1.alloc o1 = w2 at *
  have e2 := heap_alloc_new w2 o2
  have k2 := Below.heap_alloc w2 o2
  have z2 : (w2.alloc o2).heap.size = w2.heap.size + 1 := by simp
  have hb2 := hb1.alloc (by omega) o2
  generalize w2.alloc o2 = w3 at *
  have e3 := heap_alloc_new w3 o3
  have k3 := Below.heap_alloc w3 o3
  have z3 : (w3.alloc o3).heap.size = w3.heap.size + 1 := by simp
  have hb3 := hb2.alloc (by omega) o3
  refine ⟨_, rfl, hb3, by omega, ?_, ?_, ?_, ?_⟩
  · rw [k3 _ (by omega), k2 _ (by omega), k1 _ (by omega), e0]
  · rw [k3 _ (by omega), k2 _ (by omega), ← z0, e1]
  · rw [k3 _ (by omega), show w.heap.size + 2 = w2.heap.size by omega, e2]
  · rw [show w.heap.size + 3 = w3.heap.size by omega, e3]
theorem store_new_func (w : World) (u : Value) (f : Fn) (fi c : Array Value) (t : TypeId) : (store ⟨w.heap.size, 0, none⟩ (.func f fi c)).run Tryz.prog (w.alloc (.cells #[u] t)) = .ok () (w.alloc (.cells #[.func f fi c] t)) := by
  have h := heap_alloc_new w (.cells #[u] t)
  have hc := Go.Joins.cell_of_block h 0
  have hf := Go.Joins.unfrozen_of_block h 0
  have hs := World.setCell_alloc_at (w := w) #[u] t w.heap.size 0 (.func f fi c) rfl
  rw [run_store Tryz.prog _ _ _ .plain rfl]
  simp only [stored, hc, hf]
  rw [hs]
  rfl
theorem two_new (w : World) (o0 o1 : Obj) : ∃ W, W = (w.alloc o0).alloc o1 ∧ Below w.heap.size w W ∧ W.heap.size = w.heap.size + 2 ∧ W.heap[w.heap.size]? = some o0 ∧ W.heap[w.heap.size + 1]? = some o1 := by
  have e0 := heap_alloc_new w o0
  have z0 : (w.alloc o0).heap.size = w.heap.size + 1 := by simp
  have hb0 := (Below.refl w.heap.size w).alloc (Nat.le_refl _) o0
  generalize w.alloc o0 = w1 at *
  have e1 := heap_alloc_new w1 o1
  have k1 := Below.heap_alloc w1 o1
  have z1 : (w1.alloc o1).heap.size = w1.heap.size + 1 := by simp
  have hb1 := hb0.alloc (by omega) o1
  refine ⟨_, rfl, hb1, by omega, ?_, ?_⟩
  · rw [k1 _ (by omega), e0]
  · rw [← z0, e1]
theorem not_disk {w : World} {d o : Nat} {x : Int} {m : Nat} {l t : Int} {g : Bool} {T : TypeId} (hc : w.cell? ⟨d, o, none⟩ = some (.int .u8 x)) (hd : w.heap[d]? = some (.cells #[.map (some m), .int .i64 l, .int .i64 t, .bool g] T (0, 0))) : False := by
  have h := Go.Joins.cell_of_block hd o
  rw [h] at hc
  match o, hc with
  | 0, hc => simp at hc
  | 1, hc => simp at hc
  | 2, hc => simp at hc
  | 3, hc => simp at hc
  | n + 4, hc => simp at hc
section
variable {w : World} {Ft : Nat → Prop} {d m : Nat} {gs : List UInt8 → Option Nat} {rv : List UInt8 → Value} {D : DataW Unit} {M : DiskM}
/-- What is behind an Append. -/
def AppR (w : World) (Ft : Nat → Prop) (d : Nat) (r : Int × DiskM) (e : Ending) (w' : World) : Prop := e = .returned (.int .i64 r.1) ∧ ∃ Ft', Gr Ft w Ft' w' ∧ DAt w' Ft' d r.2
set_option maxHeartbeats 4000000 in
theorem append_any (h : DAt w Ft d M) (s : ByteArray) (hs : s.size ≤ 140737488351232) (vb : Value) (b : List UInt8) (hrd : Rd w w.heap.size vb b) :
    Calls Tryz.prog 71 #[.pointer (some ⟨d, 0, none⟩), .string s, vb] w (AppR w Ft d (M.app s.data.toList b)) := by
  obtain ⟨A, cb, rfl⟩ := hrd.shapeY
  have H := Lib.hid h
  have HRD := Lib.hid hrd
  obtain ⟨hlt, m, gs, rv, D, h⟩ := h
  obtain ⟨P, hP⟩ : ∃ P, P = M.app s.data.toList b := ⟨_, rfl⟩
  have HP := Lib.hid hP
  rw [← hP]
  obtain ⟨W4, hW4, hb0, hz4, b0, b1, b2, b3⟩ := four_new w (.cells #[.pointer (some ⟨d, 0, none⟩)] 24) (.cells #[.string s] 9) (.cells #[.slice A b.length cb] 33) (.cells #[.string s] 9)
  have h1 := h.below hlt hb0
  have HD1 := Lib.hid h1
  have HLT := Lib.hid hlt
  have HREF := Lib.hid (refusal_any h1 (some ⟨w.heap.size + 3, 0, none⟩) 1 [s] (fun _ => True) (strs_one (b := w.heap.size + 3) (Go.Joins.cell_of_block b3 0) trivial hs) (by simp))
  have HB0 := Lib.hid hb0
  have HRD1 := Lib.hid (HRD.out.keep hb0)
  have HX := Lib.hid (And.intro b0 (And.intro b1 b2))
  have x0 := Go.Joins.cell_of_block b0 0
  have x1 := Go.Joins.cell_of_block b1 0
  have x2 := Go.Joins.cell_of_block b2 0
  have HW4 := Lib.hid hW4
  clear h hlt h1 hP hrd hb0 b0 b1 b2 b3 hW4
  obtain ⟨z, hz⟩ : ∃ z, z = w.heap.size := ⟨_, rfl⟩
  have HZ := Lib.hid hz
  go_enter Tryz.func71, Tryz.ntmps71
  go_wp2_with fail
  rw [← HW4.out, ← hz]
  rw [← hz] at x0 x1 x2 HREF HX hz4
  clear hz
  refine HREF.out.mono ?_
  rintro e u ⟨rfl, rfl⟩
  obtain ⟨r, hr⟩ : ∃ r, r = refM M [s] := ⟨_, rfl⟩
  have HRM := Lib.hid hr
  rw [← hr]
  clear hr HREF
  by_cases hzr : r = 0
  · subst hzr
    obtain ⟨hgone, hbad, h24⟩ := refM_zero HRM.out.symm
    have c0 := HD1.out.c0
    have hlk := HD1.out.look s (by unfold maxLen; omega)
    have hlk2 : ∀ o, (Instr.lookup 45 (.map (some m)) (.string s) false).run Tryz.prog (u.alloc o) = .ok (.pointer (adrOf (gs s.data.toList))) (u.alloc o) := fun o => (HD1.out.keep (w' := u.alloc o) fun k hk => Below.heap_alloc u o k (by have := HLT.out k hk; have := HB0.out.size; omega)).look s (by unfold maxLen; omega)
    have hzu : u.heap.size = z + 4 := hz4
    have yc : ∀ {a : Addr} {v : Value} (o : Obj), u.cell? a = some v → (u.alloc o).drew.cell? a = some v := fun o h => Lib.cell?_alloc_some o h
    have y0 := yc (.cells #[.pointer none] 69) x0
    have y1 := yc (.cells #[.pointer none] 69) x1
    have yc0 := yc (.cells #[.pointer none] 69) c0
    have hlk3 : (Instr.lookup 45 (.map (some m)) (.string s) false).run Tryz.prog (u.alloc (.cells #[.pointer none] 69)).drew = .ok (.pointer (adrOf (gs s.data.toList))) (u.alloc (.cells #[.pointer none] 69)).drew := (HD1.out.keep (w' := (u.alloc (.cells #[.pointer none] 69)).drew) fun k hk => Below.heap_alloc u _ k (by have := HLT.out k hk; have := HB0.out.size; omega)).look s (by unfold maxLen; omega)
    have e0 : u.drew.cell? ⟨z, 0, none⟩ = _ := x0
    have e1 : u.drew.cell? ⟨z + 1, 0, none⟩ = _ := x1
    have ec0 : u.drew.cell? ⟨d, 0, none⟩ = _ := c0
    have hlk4 : (Instr.lookup 45 (.map (some m)) (.string s) false).run Tryz.prog u.drew = .ok (.pointer (adrOf (gs s.data.toList))) u.drew := (HD1.out.keep (w' := u.drew) fun k hk => rfl).look s (by unfold maxLen; omega)
    go_wp2_with fail
    go_region
    all_goals
      have hb5 : Below u.heap.size u (u.alloc (.cells #[.pointer (adrOf (gs s.data.toList))] 69)).drew := ((Below.refl _ _).alloc (Nat.le_refl _) _).drew
      have hz5 : (u.alloc (.cells #[.pointer (adrOf (gs s.data.toList))] 69)).drew.heap.size = z + 5 := by show (u.alloc _).heap.size = _; simp [hzu]
      have b4 : (u.alloc (.cells #[.pointer (adrOf (gs s.data.toList))] 69)).drew.heap[z + 4]? = some (.cells #[.pointer (adrOf (gs s.data.toList))] 69 (0, 0)) := by rw [← hzu]; exact heap_alloc_new u _
      clear e0 e1 ec0 hlk4 hlk3 yc0 y1 y0 yc hlk2 hlk c0
      generalize (u.alloc (.cells #[.pointer (adrOf (gs s.data.toList))] 69)).drew = u5 at hb5 hz5 b4 ⊢
      have hzw : w.heap.size = z := HZ.out.symm
      have HLT6 : Hid (∀ b, Ft b → b < u5.heap.size) := Lib.hid fun k hk => by have := HLT.out k hk; omega
      have hD5 := HD1.out.keep (w' := u5) fun k hk => hb5.block k (by have := HLT.out k hk; omega)
      have HX5 := Lib.hid (And.intro ((hb5.block z (by omega)).trans HX.out.1) (And.intro ((hb5.block (z + 1) (by omega)).trans HX.out.2.1) (And.intro ((hb5.block (z + 2) (by omega)).trans HX.out.2.2) b4)))
      have HRD5 : Hid (Rd u5 u5.heap.size (.slice A b.length cb) b) := Lib.hid ((HRD1.out.keep (hb5.mono (by omega))).upY (by omega))
      have HB5 : Hid (Below w.heap.size w u5) := Lib.hid (HB0.out.trans (hb5.mono (by omega)))
      have HNB : Hid (∀ {w : World} {o : Nat} {x : Int}, w.cell? ⟨d, o, none⟩ = some (.int .u8 x) → w.heap[d]? = some (.cells #[.map (some m), .int .i64 M.left, .int .i64 M.torn, .bool M.gone] 49 (0, 0)) → False) := Lib.hid fun h1 h2 => not_disk h1 h2
      clear hb5 b4
      cases hgs : gs s.data.toList with
      | some G =>
        obtain ⟨F, hf, hF⟩ := hD5.ex hgs
        obtain ⟨A2, c2, hrv⟩ := hF.own.rdY.shapeY
        obtain ⟨n2, hnn⟩ : ∃ x, x = F.b.length := ⟨_, rfl⟩
        have HN := Lib.hid hnn
        rw [← hnn] at hrv
        rw [hrv] at hF
        have HC : Hid (Cand u5 Ft d m gs rv D M s.data.toList G (.slice A2 n2 c2) F) := Lib.hid ⟨hD5, hF, hbad, .inl ⟨hgs, hrv, hf⟩⟩
        have HPF : Hid (P = if 1048576 < F.b.length + b.length then (2, M) else if M.left = 0 then (90, (M.put s.data.toList ⟨F.b ++ b.take M.torn.toNat, F.sure⟩).off) else (0, (M.put s.data.toList ⟨F.b ++ b, F.sure⟩).spent)) := Lib.hid (by
          rw [HP.out]; unfold DiskM.app DiskM.file; rw [hgone, hbad, hf]; rfl)
        rw [hgs] at HX5
        have HX6 : Hid (u5.heap[z]? = some (.cells #[.pointer (some ⟨d, 0, none⟩)] 24 (0, 0)) ∧ u5.heap[z + 1]? = some (.cells #[.string s] 9 (0, 0)) ∧ u5.heap[z + 2]? = some (.cells #[.slice A b.length cb] 33 (0, 0)) ∧ u5.heap[z + 4]? = some (.cells #[.pointer (some ⟨G, 0, none⟩)] 69 (0, 0))) := HX5
        have y4 := Go.Joins.cell_of_block HX6.out.2.2.2 0
        have HG6 : Hid (Gr Ft w Ft u5) := Lib.hid (Gr.of_below HB5.out)
        have HNF : Hid (¬ Ft (z + 5) ∧ ¬ Ft (z + 2) ∧ ¬ Ft z) := Lib.hid ⟨fun h => by have := HLT.out _ h; omega, fun h => by have := HLT.out _ h; omega, fun h => by have := HLT.out _ h; omega⟩
        have HRD6 := HRD5
        have hz6 := hz5
        clear hnn hF hrv hgs hf hD5 HX5 HRD5
        go_wp2_with fail
        obtain ⟨Ft6, hFt6⟩ : ∃ F6, F6 = Ft := ⟨_, rfl⟩
        have HFT := Lib.hid hFt6
        rw [← hFt6] at HC HLT6 HNF
        have HG6' : Hid (Gr Ft w Ft6 u5) := Lib.hid (by rw [hFt6]; exact HG6.out)
        clear HG6 hFt6
        have HG6 := HG6'
        clear HG6'
        generalize u5 = u6 at *
        have k0 := cell_row (row := none) (w := u6.drew) (Go.Joins.cell_of_block (w := u6.drew) HX6.out.2.2.1 0) (by simp)
        have k1 := cell_row (row := none) (w := u6.drew) (Go.Joins.cell_of_block (w := u6.drew) HX6.out.2.2.2 0) (by simp)
        have k2 := cell_row (row := none) (w := u6.drew) (b := G) (o := 0) HC.out.file.c0 (by simp)
        have hn2 : n2 ≤ 1048576 := by rw [HN.out]; exact HC.out.file.most
        have hw2 : wrap64 (1048576 - (n2 : Int)) = 1048576 - (n2 : Int) := by unfold wrap64; omega
        refine wp_region_OT (RowR none) (RowR.refl _) (RowR.trans _) [] (.pure [0, 1, 2, 3, 4, 5, 6, 7, 8] (.tail [])) (by kernel_rfl) (by kernel_rfl) (fun _ d _ _ _ h => by cases d <;> exact h) ?_
        have HC7 : Hid (Cand u6.drew Ft6 d m gs rv D M s.data.toList G (.slice A2 n2 c2) F) := Lib.hid ⟨HC.out.disk.keep fun _ _ => rfl, HC.out.file.keep (fun _ _ => rfl) (fun _ x => x), HC.out.good, HC.out.or⟩
        have HRD7 : Hid (Rd u6.drew u6.drew.heap.size (.slice A b.length cb) b) := HRD6
        have HX7 : Hid (u6.drew.heap[z]? = some (.cells #[.pointer (some ⟨d, 0, none⟩)] 24 (0, 0)) ∧ u6.drew.heap[z + 1]? = some (.cells #[.string s] 9 (0, 0)) ∧ u6.drew.heap[z + 2]? = some (.cells #[.slice A b.length cb] 33 (0, 0)) ∧ u6.drew.heap[z + 4]? = some (.cells #[.pointer (some ⟨G, 0, none⟩)] 69 (0, 0))) := HX6
        have HLT7 : Hid (∀ b, Ft6 b → b < u6.drew.heap.size) := HLT6
        have HG7 : Hid (Gr Ft w Ft6 u6.drew) := Lib.hid ⟨HG6.out.os, HG6.out.tape, HG6.out.output, HG6.out.size, HG6.out.block, HG6.out.ft⟩
        have hz7 : u6.drew.heap.size = (z + 5) := hz6
        clear HC HRD6 HX6 HLT6 HG6
        generalize u6.drew = u7 at *
        refine ot_pure ?_
        simp only [atNats, List.filterMap_cons, List.filterMap_nil, List.getElem?_toArray, List.getElem?_cons_succ, List.getElem?_cons_zero]
        show wpQuiet _ _ _ _ [_, _, _, _, _, _, _, _, _] _
        try simp only [List.getElem_toArray, List.getElem_cons_succ, List.getElem_cons_zero, Act.put, List.setIfInBounds_toArray, List.set_cons_succ, List.set_cons_zero] at *
        repeat (go_big_quiet_step (fail))
        refine wpQuiet_nil ?_
        refine ot_end ?_
        clear k0 k1 k2
        have hFb : F.b.length = n2 := HN.out.symm
        by_cases hfull : 1048576 < n2 + b.length
        · have hcmp : decide ((1048576 : Int) - (n2 : Int) < (b.length : Int)) = true := decide_eq_true (by omega)
          have hop : P = (2, M) := by rw [HPF.out, if_pos (by rw [hFb]; exact hfull)]
          have HOP := Lib.hid hop
          have HCC := Lib.hid HC7.out.disk
          clear hop hFb
          go_wp2_with fail
          go_ret
          rw [HOP.out]
          exact ⟨rfl, Ft6, HG7.out, ⟨HLT7.out, _, _, _, _, HCC.out⟩⟩
        · have hcmp : decide ((1048576 : Int) - (n2 : Int) < (b.length : Int)) = false := decide_eq_false (by omega)
          have hop0 : P = if M.left = 0 then (90, (M.put s.data.toList ⟨F.b ++ b.take M.torn.toNat, F.sure⟩).off) else (0, (M.put s.data.toList ⟨F.b ++ b, F.sure⟩).spent) := by rw [HPF.out, if_neg (by rw [hFb]; exact hfull)]
          have HOP := Lib.hid hop0
          obtain ⟨u8, hu8, hb8, hz8, q0, q1⟩ := two_new u7 (.cells #[.func (.func 92) #[] #[.pointer (some ⟨z + 4, 0, none⟩), .pointer (some ⟨z + 2, 0, none⟩), .pointer (some ⟨z, 0, none⟩), .pointer (some ⟨z + 1, 0, none⟩)]] 70) (.cells #[.func (.func 94) #[] #[.pointer (some ⟨u7.heap.size, 0, none⟩), .pointer (some ⟨z + 2, 0, none⟩), .pointer (some ⟨z, 0, none⟩)]] 1)
          have HU8 := Lib.hid hu8
          rw [hz7] at q0 q1 hz8
          have hD8 := HC7.out.disk.below HLT7.out hb8
          have hF8 := HC7.out.file.keep (w' := u8) (Ft' := Ft6) (fun k hk => hb8.block k (by rcases hk with rfl | hk; exact HC7.out.file.lt; exact HC7.out.file.own.ltk hk)) (fun _ x => x)
          have hX8 : ∀ k, k < (z + 5) → u8.heap[k]? = u7.heap[k]? := fun k hk => hb8.block k (by omega)
          have HX8 := Lib.hid (And.intro ((hX8 z (by omega)).trans HX7.out.1) (And.intro ((hX8 (z + 1) (by omega)).trans HX7.out.2.1) (And.intro ((hX8 (z + 2) (by omega)).trans HX7.out.2.2.1) (And.intro ((hX8 (z + 4) (by omega)).trans HX7.out.2.2.2) (And.intro q0 q1)))))
          have HRD8 := Lib.hid (HRD7.out.keep hb8)
          have HG8 : Hid (Gr Ft w Ft6 u8) := Lib.hid (HG7.out.trans (Gr.of_below hb8))
          have HLT8 : Hid (∀ b, Ft6 b → b < u8.heap.size) := Lib.hid fun k hk => by have := HLT7.out k hk; omega
          have hbx : ∀ (k : Nat) (x : Value) (t : TypeId), u8.heap[k]? = some (.cells #[x] t (0, 0)) → t ≠ 5 → t ≠ 89 → k ≠ d ∧ k ≠ G ∧ some k ≠ (Value.slice A2 n2 c2).ownBlock := fun k x t hk h1 h2 => ⟨fun e => (by have h3 := hD8.disk; rw [← e, hk] at h3; cases h3), fun e => (by have h3 := hF8.tagg; rw [← e, tag_of hk] at h3; exact h2 (by injection h3)), fun e => (by have h3 := hF8.own.tag e.symm; rw [tag_of hk] at h3; exact h1 (by injection h3))⟩
          have hor : ∀ M' : DiskM, M'.fs = M.fs → M'.cnt = M.cnt → ∀ w1, DiskAt w1 Ft6 d m gs rv D M' → u8.grownBy w1 (some d) → w1.heap.size = u8.heap.size → Cand w1 Ft6 d m gs rv D M' s.data.toList G (.slice A2 n2 c2) F := fun M' hf hc w1 h1 hg1 hs1 =>
            ⟨h1, hF8.keep (fun k hk => hg1.block k (by rcases hk with rfl | hk; exact hF8.lt; exact hF8.own.ltk hk) (fun e => by
              injection e with e
              have h3 := hD8.tagd
              rcases hk with hk | hk
              · rw [← e, hk, hF8.tagg] at h3; exact absurd h3 (by decide)
              · rw [← e, hF8.own.tag hk] at h3; exact absurd h3 (by decide))) (fun _ x => x), HC7.out.good, by rw [hf, hc]; exact HC7.out.or⟩
          have hFT : ∀ k x t, u8.heap[k]? = some (.cells #[x] t (0, 0)) → t ≠ 5 → t ≠ 89 → ¬ (k = d) := fun k x t h1 h2 h3 => (hbx _ _ _ h1 h2 h3).1
          have hput : ∀ (M' : DiskM) (n : Nat), M'.fs = M.fs → M'.cnt = M.cnt → n ≤ b.length → ∀ w1, DiskAt w1 Ft6 d m gs rv D M' → u8.grownBy w1 (some d) → w1.heap.size = u8.heap.size → Calls Tryz.prog 92 #[.int .i64 (n : Int), .pointer (some ⟨z + 4, 0, none⟩), .pointer (some ⟨z + 2, 0, none⟩), .pointer (some ⟨z, 0, none⟩), .pointer (some ⟨z + 1, 0, none⟩)] w1 (Retd (PutR w1 Ft6 d (M'.put s.data.toList ⟨F.b ++ b.take n, F.sure⟩))) := fun M' n hf hc hn w1 h1 hg1 hs1 => by
            have hkb : ∀ {k : Nat} {x : Value} {t : TypeId}, u8.heap[k]? = some (.cells #[x] t (0, 0)) → t ≠ 5 → t ≠ 89 → w1.heap[k]? = some (.cells #[x] t (0, 0)) := fun h4 h5 h6 => (hg1.block _ ((Array.getElem?_eq_some_iff.1 h4).1) (fun e => (hbx _ _ _ h4 h5 h6).1 (by injection e))).trans h4
            refine put_any (hor M' hf hc w1 h1 hg1 hs1) (fun k hk => by rw [hs1]; exact HLT8.out k hk) h24 (z + 4) (z + 2) z (z + 1) (hkb HX8.out.2.2.2.1 (by decide) (by decide)) _ (hkb HX8.out.2.2.1 (by decide) (by decide)) (hkb HX8.out.1 (by decide) (by decide)) (hkb HX8.out.2.1 (by decide) (by decide)) b ?_ n hn (by rw [hFb]; omega)
            have hrd := HRD8.out
            obtain ⟨A', c', e', r1, r2, r3⟩ := hrd
            refine ⟨A', c', e', r1, r2, fun hl => ?_⟩
            obtain ⟨bb, off, h4, h5, h6⟩ := r3 hl
            refine ⟨bb, off, h4, by rw [hs1]; omega, fun i hi => hg1.cell (h6 i hi) (fun e => ?_)⟩
            injection e with e
            have h7 := h6 i hi
            have h8 := hD8.disk
            change bb = d at e
            rw [e] at h7
            exact HNB.out h7 h8
          have hmf : ∀ (fn : Fn) (first cap : Array Value) (w : World), (Instr.makeFunc fn first cap).run Tryz.prog w = .ok (.func fn first cap) w := fun _ _ _ _ => rfl
          have HPUT := Lib.hid hput
          have HD8 := Lib.hid hD8
          have HBX := Lib.hid hbx
          clear hput hor hbx hFT hF8 hD8 hX8 q0 q1 hb8 hu8 hop0
          have hst : ∀ (f : Fn) (fi c : Array Value), (store ⟨u7.heap.size, 0, none⟩ (.func f fi c)).run Tryz.prog (u7.alloc (.cells #[Value.nilFunc] 70)) = .ok () (u7.alloc (.cells #[.func f fi c] 70)) := fun f fi c => store_new_func u7 _ f fi c _
          have yy0 : ∀ o : Obj, (u7.alloc o).cell? ⟨z, 0, none⟩ = some (.pointer (some ⟨d, 0, none⟩)) := fun o => Lib.cell?_alloc_some o (Go.Joins.cell_of_block HX7.out.1 0)
          have HZ7 := Lib.hid hz7
          clear hz7
          go_wp2_with fail
          rw [← HU8.out, HZ7.out]
          by_cases hl : M.left = 0
          · have hcF : ¬ Ft6 ((z + 5) + 1) := fun h => by have := HLT7.out _ h; have := HZ7.out; omega
            have hR4 : ∀ w1, u8.grownBy w1 (some d) → w1.heap.size = u8.heap.size → ∀ w2, PutR w1 Ft6 d (M.off.put s.data.toList ⟨F.b ++ b.take (min b.length M.torn.toNat), F.sure⟩) w2 → R4 ((z + 5)) (z + 2) z d w1 w2 := fun w1 hg1 hs1 w2 hp k hk => by
              obtain ⟨hd2, Ft2, hg2, -⟩ := hp
              by_cases hkd : k = d
              · rw [hkd]; exact hd2
              · have hno : ∀ {x : Value} {t : TypeId}, u8.heap[k]? = some (.cells #[x] t (0, 0)) → ¬ Ft6 k → w2.heap[k]? = w1.heap[k]? := fun h4 h5 => hg2.block k (by have := (Array.getElem?_eq_some_iff.1 h4).1; omega) h5
                rcases hk with rfl | rfl | rfl | rfl
                · exact hno HX8.out.2.2.2.2.1 HNF.out.1
                · exact hno HX8.out.2.2.1 HNF.out.2.1
                · exact hno HX8.out.1 HNF.out.2.2
                · exact absurd rfl hkd
            refine (change_off1 HD8.out hgone hl _ 94 #[.pointer (some ⟨(z + 5), 0, none⟩), .pointer (some ⟨z + 2, 0, none⟩), .pointer (some ⟨z, 0, none⟩)] enters_app3 ((z + 5) + 1) 1 hcF (Go.Joins.cell_of_block HX8.out.2.2.2.2.2 0) (fun w2 => ∃ w1, Gr Ft6 u8 Ft6 w1 ∧ PutR w1 Ft6 d (M.off.put s.data.toList ⟨F.b ++ b.take (min b.length M.torn.toNat), F.sure⟩) w2) ?_).mono ?_
            · intro w1 h1 hg1 hs1
              have hkb : ∀ {k : Nat} {x : Value} {t : TypeId}, u8.heap[k]? = some (.cells #[x] t (0, 0)) → t ≠ 5 → t ≠ 89 → w1.heap[k]? = some (.cells #[x] t (0, 0)) := fun h4 h5 h6 => (hg1.block _ ((Array.getElem?_eq_some_iff.1 h4).1) (fun e => (HBX.out _ _ _ h4 h5 h6).1 (by injection e))).trans h4
              have h3 := app3_any w1 (z + 5) (z + 2) z d (z + 4) (z + 2) z (z + 1) A b.length cb M.torn h1.rng.2.2.1 _ (hkb HX8.out.2.2.2.2.1 (by decide) (by decide)) (hkb HX8.out.2.2.1 (by decide) (by decide)) (hkb HX8.out.1 (by decide) (by decide)) h1.c2 (hR4 w1.drew ⟨hg1.os, hg1.tape, hg1.output, hg1.size, hg1.block⟩ hs1) (HPUT.out M.off (min b.length M.torn.toNat) rfl rfl (Nat.min_le_left _ _) w1.drew (h1.keep fun _ _ => rfl) ⟨hg1.os, hg1.tape, hg1.output, hg1.size, hg1.block⟩ hs1)
              refine h3.mono ?_
              rintro e w2 ⟨hx, hp⟩
              exact ⟨hx, w1.drew, ⟨hg1.os, hg1.tape, hg1.output, hg1.size, (Gr.of_grown hg1 h1.fd).block, fun _ x => .inl x⟩, hp⟩
            · rintro e w2 ⟨rfl, w1, hg1, -, Ft2, hg2, hd2⟩
              have hmin : b.take (min b.length M.torn.toNat) = b.take M.torn.toNat := by rw [Nat.min_comm, ← List.take_take, List.take_of_length_le (Nat.le_refl b.length)]
              have hop1 : P = (90, (M.put s.data.toList ⟨F.b ++ b.take M.torn.toNat, F.sure⟩).off) := by rw [HOP.out, if_pos hl]
              have HOP1 := Lib.hid hop1
              have HE : Hid (AppR w Ft d P (.returned (.int .i64 90)) w2) := Lib.hid ⟨by rw [hop1], Ft2, (HG8.out.trans hg1).trans hg2, by rw [hop1]; rw [hmin] at hd2; exact hd2⟩
              clear hop1 hg1 hg2 hd2
              go_wp2_with fail
              go_ret
              exact HE.out
          · refine (change_do HD8.out hgone hl 93 #[.pointer (some ⟨(z + 5), 0, none⟩), .pointer (some ⟨z + 2, 0, none⟩)] enters_app2 _ (fun w2 => ∃ w1, Gr Ft6 u8 Ft6 w1 ∧ PutR w1 Ft6 d (M.spent.put s.data.toList ⟨F.b ++ b.take b.length, F.sure⟩) w2) ?_).mono ?_
            · intro w1 h1 hg1 hs1
              have hkb : ∀ {k : Nat} {x : Value} {t : TypeId}, u8.heap[k]? = some (.cells #[x] t (0, 0)) → t ≠ 5 → t ≠ 89 → w1.heap[k]? = some (.cells #[x] t (0, 0)) := fun h4 h5 h6 => (hg1.block _ ((Array.getElem?_eq_some_iff.1 h4).1) (fun e => (HBX.out _ _ _ h4 h5 h6).1 (by injection e))).trans h4
              have h3 := app2_any w1 (z + 5) (z + 2) (z + 4) (z + 2) z (z + 1) A b.length cb _ (hkb HX8.out.2.2.2.2.1 (by decide) (by decide)) (hkb HX8.out.2.2.1 (by decide) (by decide)) (HPUT.out M.spent b.length rfl rfl (Nat.le_refl _) w1 h1 hg1 hs1)
              refine h3.mono ?_
              rintro e w2 ⟨hx, hp⟩
              exact ⟨hx, w1, Gr.of_grown hg1 h1.fd, hp⟩
            · rintro e w2 ⟨rfl, w1, hg1, -, Ft2, hg2, hd2⟩
              have hop1 : P = (0, (M.put s.data.toList ⟨F.b ++ b, F.sure⟩).spent) := by rw [HOP.out, if_neg hl]
              have HE : Hid (AppR w Ft d P (.returned (.int .i64 0)) w2) := Lib.hid ⟨by rw [hop1], Ft2, (HG8.out.trans hg1).trans hg2, by rw [hop1]; rw [List.take_of_length_le (Nat.le_refl _)] at hd2; exact hd2⟩
              clear hop1 hg1 hg2 hd2
              go_wp2_with fail
              go_ret
              exact HE.out
      | none =>
        have hfs : M.fs s.data.toList = none := by
          have h9 := HD1.out.ok s.data.toList
          rw [hgs] at h9
          cases hf : M.fs s.data.toList with
          | none => rfl
          | some f => rw [hf] at h9; cases h9
        rw [hgs] at HX5
        have y4 : u5.cell? ⟨z + 4, 0, none⟩ = some (.pointer none) := Go.Joins.cell_of_block HX5.out.2.2.2 0
        have f4 := Go.Joins.unfrozen_of_block HX5.out.2.2.2 0
        have y0 : u5.cell? ⟨z, 0, none⟩ = some (.pointer (some ⟨d, 0, none⟩)) := Go.Joins.cell_of_block HX5.out.1 0
        have yd := hD5.c0
        have HM5 := Lib.hid hD5.map
        have hcn := hD5.cnt
        by_cases hc : M.cnt = 256
        · have d1 : ((Maps.size D : Int) == 256) = true := by rw [hcn, hc]; rfl
          have hop : P = (2, M) := by rw [HP.out]; unfold DiskM.app; rw [hgone, hbad, hfs, hc]; rfl
          have HOP := Lib.hid hop
          have HD5 := Lib.hid hD5
          clear hop hcn hD5 hfs hgs
          go_wp2_with (first | (at_len; refine wpList_len_own _ rfl _ _ rfl _ _ Tryz.underlying45 fileR m M.cnt D rfl HM5.out ?_))
          go_ret
          rw [HOP.out]
          exact ⟨rfl, Ft, Gr.of_below HB5.out, ⟨HLT6.out, _, _, _, _, HD5.out⟩⟩
        · have d1 : ((Maps.size D : Int) == 256) = false := by rw [hcn]; simp; omega
          have hc256 : M.cnt < 256 := by have := hD5.c256; omega
          have HC256 := Lib.hid hc256
          have HD5 := Lib.hid hD5
          have HFS := Lib.hid hfs
          have HGS := Lib.hid hgs
          have HZ5 := Lib.hid hz5
          have y4a : ∀ o : Obj, (u5.alloc o).cell? ⟨z + 4, 0, none⟩ = some (.pointer none) := fun o => Lib.cell?_alloc_some o y4
          have f4a : ∀ o : Obj, (u5.alloc o).frozen? ⟨z + 4, 0, none⟩ = false := fun o => (World.frozen?_of_block (a := ⟨z + 4, 0, none⟩) (Below.heap_alloc u5 o (z + 4) (by omega))).trans f4
          obtain ⟨u6, hu6⟩ : ∃ W, W = (u5.alloc (.cells #[.slice none 0 0, .int .i64 0] 89)).setCell ⟨z + 4, 0, none⟩ (.pointer (some ⟨u5.heap.size, 0, none⟩)) := ⟨_, rfl⟩
          have HU6 := Lib.hid hu6
          have hka : ∀ k, k < u5.heap.size → k ≠ z + 4 → u6.heap[k]? = u5.heap[k]? := fun k h1 h2 => by rw [hu6]; exact (heap_setCell_other _ ⟨z + 4, 0, none⟩ k _ h2).trans (Below.heap_alloc u5 _ k h1)
          have hz6 : u6.heap.size = z + 6 := by rw [hu6]; simp [hz5]
          have hbn : u6.heap[z + 5]? = some (.cells #[.slice none 0 0, .int .i64 0] 89 (0, 0)) := by rw [hu6]; exact (heap_setCell_other _ ⟨z + 4, 0, none⟩ (z + 5) _ (by simp)).trans (by rw [← hz5]; exact heap_alloc_new u5 _)
          have hb4 : u6.heap[z + 4]? = some (.cells #[.pointer (some ⟨z + 5, 0, none⟩)] 69 (0, 0)) := by
            rw [hu6, hz5]
            exact setCell_one ((Below.heap_alloc u5 _ (z + 4) (by omega)).trans HX5.out.2.2.2) 0 _
          have ho6 : u6.os = u5.os ∧ u6.tape = u5.tape ∧ u6.output = u5.output := by rw [hu6]; exact ⟨rfl, rfl, rfl⟩
          have hFn : ∀ k, Ft k → k < z := fun k hk => by have := HLT.out k hk; omega
          have hD6 := HD5.out.keep (w' := u6) fun k hk => hka k (by have := hFn k hk; omega) (by have := hFn k hk; omega)
          obtain ⟨G, hG⟩ : ∃ G, G = z + 5 := ⟨_, rfl⟩
          obtain ⟨F, hF⟩ : ∃ F : FileM, F = ⟨[], 0⟩ := ⟨_, rfl⟩
          obtain ⟨A2, n2, c2, hE⟩ : ∃ (A : Option Addr) (n c : Nat), Value.slice A n c = .slice none 0 0 := ⟨none, 0, 0, rfl⟩
          have HN : Hid (n2 = F.b.length) := Lib.hid (by rw [hF]; injection hE)
          have HC : Hid (Cand u6 (fun k => Ft k ∨ k = G) d m gs rv D M s.data.toList G (.slice A2 n2 c2) F) := Lib.hid ⟨hD6.mono fun _ h => .inl h,
            ⟨by rw [hG, hF, hE]; exact hbn, by rw [hF, hE]; exact World.ownsRow_nil _ _ _ _, .inr rfl, fun k hk => (by rw [hE] at hk; cases hk), by rw [hF]; exact Nat.le_refl _, by rw [hF]; simp⟩, hbad,
            .inr ⟨fun a ha => (by obtain ⟨f, -, hff⟩ := HD5.out.ex ha; have := hFn _ hff.ftg; omega), fun a k _ _ hv => (by rw [hE] at hv; cases hv), .inr HC256.out⟩⟩
          have HPF : Hid (P = if 1048576 < F.b.length + b.length then (2, M) else if M.left = 0 then (90, (M.put s.data.toList ⟨F.b ++ b.take M.torn.toNat, F.sure⟩).off) else (0, (M.put s.data.toList ⟨F.b ++ b, F.sure⟩).spent)) := Lib.hid (by
            rw [HP.out]; unfold DiskM.app DiskM.file; rw [hgone, hbad, HFS.out, decide_eq_false hc, hF]; rfl)
          have HX6 : Hid (u6.heap[z]? = some (.cells #[.pointer (some ⟨d, 0, none⟩)] 24 (0, 0)) ∧ u6.heap[z + 1]? = some (.cells #[.string s] 9 (0, 0)) ∧ u6.heap[z + 2]? = some (.cells #[.slice A b.length cb] 33 (0, 0)) ∧ u6.heap[z + 4]? = some (.cells #[.pointer (some ⟨G, 0, none⟩)] 69 (0, 0))) :=
            Lib.hid ⟨(hka z (by omega) (by omega)).trans HX5.out.1, (hka (z + 1) (by omega) (by omega)).trans HX5.out.2.1, (hka (z + 2) (by omega) (by omega)).trans HX5.out.2.2.1, by rw [hG]; exact hb4⟩
          have HG6 : Hid (Gr Ft w (fun k => Ft k ∨ k = G) u6) := Lib.hid ⟨ho6.1.trans HB5.out.os, ho6.2.1.trans HB5.out.tape, ho6.2.2.trans HB5.out.output, by omega, fun k hk _ => (hka k (by omega) (by omega)).trans (HB5.out.block k hk), fun k hk => by
            rcases hk with hk | hk
            · exact .inl hk
            · exact .inr (by omega)⟩
          have HNF : Hid (¬ (Ft (z + 6) ∨ z + 6 = G) ∧ ¬ (Ft (z + 2) ∨ z + 2 = G) ∧ ¬ (Ft z ∨ z = G)) := Lib.hid ⟨fun h => by rcases h with h | h; have := hFn _ h; omega; omega, fun h => by rcases h with h | h; have := hFn _ h; omega; omega, fun h => by rcases h with h | h; have := hFn _ h; omega; omega⟩
          have HLT6' : Hid (∀ k, (Ft k ∨ k = G) → k < u6.heap.size) := Lib.hid fun k hk => by rcases hk with hk | hk; have := hFn k hk; omega; omega
          have HRD6 : Hid (Rd u6 u6.heap.size (.slice A b.length cb) b) := Lib.hid (by
            have hrd := HRD5.out
            obtain ⟨A', c', e', r1, r2, r3⟩ := hrd
            refine ⟨A', c', e', r1, r2, fun hl => ?_⟩
            obtain ⟨bb, off, h4, h5, h6⟩ := r3 hl
            refine ⟨bb, off, h4, by omega, fun i hi => (World.cell?_of_block (a := ⟨bb, off + i, none⟩) (hka bb h5 (fun e => ?_))).trans (h6 i hi)⟩
            have h7 := h6 i hi
            subst e
            have h8 := Go.Joins.cell_of_block HX5.out.2.2.2 (off + i)
            rw [h7] at h8
            match h9 : off + i, h8 with
            | 0, h8 => simp at h8
            | n + 1, h8 => simp at h8)
          have HG := Lib.hid hG
          obtain ⟨Ft6, hFt6⟩ : ∃ F6 : Nat → Prop, F6 = fun k => Ft k ∨ k = G := ⟨_, rfl⟩
          clear HLT6
          have HLT6 : Hid (∀ k, Ft6 k → k < u6.heap.size) := Lib.hid (by rw [hFt6]; exact HLT6'.out)
          have HNF2 : Hid (¬ Ft6 (z + 6) ∧ ¬ Ft6 (z + 2) ∧ ¬ Ft6 z) := Lib.hid (by rw [hFt6]; exact HNF.out)
          rw [← hFt6] at HC HG6
          clear HNF HLT6' hFt6
          have HNF := HNF2
          clear HNF2 hcn hD5 hfs hgs hka hbn hb4 ho6 hFn hD6 hE hF hu6 hG
          have HZ6 := Lib.hid hz6
          have hzz6 := hz6
          clear hz5 hz6
          go_wp2_with (first | (at_len; refine wpList_len_own _ rfl _ _ rfl _ _ Tryz.underlying45 fileR m M.cnt D rfl HM5.out ?_))
          rw [← HU6.out, HZ5.out]
          have hz6 := hzz6
          clear hzz6
          have k0 := cell_row (row := none) (w := u6.drew) (Go.Joins.cell_of_block (w := u6.drew) HX6.out.2.2.1 0) (by simp)
          have k1 := cell_row (row := none) (w := u6.drew) (Go.Joins.cell_of_block (w := u6.drew) HX6.out.2.2.2 0) (by simp)
          have k2 := cell_row (row := none) (w := u6.drew) (b := G) (o := 0) HC.out.file.c0 (by simp)
          have hn2 : n2 ≤ 1048576 := by rw [HN.out]; exact HC.out.file.most
          have hw2 : wrap64 (1048576 - (n2 : Int)) = 1048576 - (n2 : Int) := by unfold wrap64; omega
          refine wp_region_OT (RowR none) (RowR.refl _) (RowR.trans _) [] (.pure [0, 1, 2, 3, 4, 5, 6, 7, 8] (.tail [])) (by kernel_rfl) (by kernel_rfl) (fun _ d _ _ _ h => by cases d <;> exact h) ?_
          have HC7 : Hid (Cand u6.drew Ft6 d m gs rv D M s.data.toList G (.slice A2 n2 c2) F) := Lib.hid ⟨HC.out.disk.keep fun _ _ => rfl, HC.out.file.keep (fun _ _ => rfl) (fun _ x => x), HC.out.good, HC.out.or⟩
          have HRD7 : Hid (Rd u6.drew u6.drew.heap.size (.slice A b.length cb) b) := HRD6
          have HX7 : Hid (u6.drew.heap[z]? = some (.cells #[.pointer (some ⟨d, 0, none⟩)] 24 (0, 0)) ∧ u6.drew.heap[z + 1]? = some (.cells #[.string s] 9 (0, 0)) ∧ u6.drew.heap[z + 2]? = some (.cells #[.slice A b.length cb] 33 (0, 0)) ∧ u6.drew.heap[z + 4]? = some (.cells #[.pointer (some ⟨G, 0, none⟩)] 69 (0, 0))) := HX6
          have HLT7 : Hid (∀ b, Ft6 b → b < u6.drew.heap.size) := HLT6
          have HG7 : Hid (Gr Ft w Ft6 u6.drew) := Lib.hid ⟨HG6.out.os, HG6.out.tape, HG6.out.output, HG6.out.size, HG6.out.block, HG6.out.ft⟩
          have hz7 : u6.drew.heap.size = (z + 6) := hz6
          clear HC HRD6 HX6 HLT6 HG6
          generalize u6.drew = u7 at *
          refine ot_pure ?_
          simp only [atNats, List.filterMap_cons, List.filterMap_nil, List.getElem?_toArray, List.getElem?_cons_succ, List.getElem?_cons_zero]
          show wpQuiet _ _ _ _ [_, _, _, _, _, _, _, _, _] _
          try simp only [List.getElem_toArray, List.getElem_cons_succ, List.getElem_cons_zero, Act.put, List.setIfInBounds_toArray, List.set_cons_succ, List.set_cons_zero] at *
          repeat (go_big_quiet_step (fail))
          refine wpQuiet_nil ?_
          refine ot_end ?_
          clear k0 k1 k2
          have hFb : F.b.length = n2 := HN.out.symm
          by_cases hfull : 1048576 < n2 + b.length
          · have hcmp : decide ((1048576 : Int) - (n2 : Int) < (b.length : Int)) = true := decide_eq_true (by omega)
            have hop : P = (2, M) := by rw [HPF.out, if_pos (by rw [hFb]; exact hfull)]
            have HOP := Lib.hid hop
            have HCC := Lib.hid HC7.out.disk
            clear hop hFb
            go_wp2_with fail
            go_ret
            rw [HOP.out]
            exact ⟨rfl, Ft6, HG7.out, ⟨HLT7.out, _, _, _, _, HCC.out⟩⟩
          · have hcmp : decide ((1048576 : Int) - (n2 : Int) < (b.length : Int)) = false := decide_eq_false (by omega)
            have hop0 : P = if M.left = 0 then (90, (M.put s.data.toList ⟨F.b ++ b.take M.torn.toNat, F.sure⟩).off) else (0, (M.put s.data.toList ⟨F.b ++ b, F.sure⟩).spent) := by rw [HPF.out, if_neg (by rw [hFb]; exact hfull)]
            have HOP := Lib.hid hop0
            obtain ⟨u8, hu8, hb8, hz8, q0, q1⟩ := two_new u7 (.cells #[.func (.func 92) #[] #[.pointer (some ⟨z + 4, 0, none⟩), .pointer (some ⟨z + 2, 0, none⟩), .pointer (some ⟨z, 0, none⟩), .pointer (some ⟨z + 1, 0, none⟩)]] 70) (.cells #[.func (.func 94) #[] #[.pointer (some ⟨u7.heap.size, 0, none⟩), .pointer (some ⟨z + 2, 0, none⟩), .pointer (some ⟨z, 0, none⟩)]] 1)
            have HU8 := Lib.hid hu8
            rw [hz7] at q0 q1 hz8
            have hD8 := HC7.out.disk.below HLT7.out hb8
            have hF8 := HC7.out.file.keep (w' := u8) (Ft' := Ft6) (fun k hk => hb8.block k (by rcases hk with rfl | hk; exact HC7.out.file.lt; exact HC7.out.file.own.ltk hk)) (fun _ x => x)
            have hX8 : ∀ k, k < (z + 6) → u8.heap[k]? = u7.heap[k]? := fun k hk => hb8.block k (by omega)
            have HX8 := Lib.hid (And.intro ((hX8 z (by omega)).trans HX7.out.1) (And.intro ((hX8 (z + 1) (by omega)).trans HX7.out.2.1) (And.intro ((hX8 (z + 2) (by omega)).trans HX7.out.2.2.1) (And.intro ((hX8 (z + 4) (by omega)).trans HX7.out.2.2.2) (And.intro q0 q1)))))
            have HRD8 := Lib.hid (HRD7.out.keep hb8)
            have HG8 : Hid (Gr Ft w Ft6 u8) := Lib.hid (HG7.out.trans (Gr.of_below hb8))
            have HLT8 : Hid (∀ b, Ft6 b → b < u8.heap.size) := Lib.hid fun k hk => by have := HLT7.out k hk; omega
            have hbx : ∀ (k : Nat) (x : Value) (t : TypeId), u8.heap[k]? = some (.cells #[x] t (0, 0)) → t ≠ 5 → t ≠ 89 → k ≠ d ∧ k ≠ G ∧ some k ≠ (Value.slice A2 n2 c2).ownBlock := fun k x t hk h1 h2 => ⟨fun e => (by have h3 := hD8.disk; rw [← e, hk] at h3; cases h3), fun e => (by have h3 := hF8.tagg; rw [← e, tag_of hk] at h3; exact h2 (by injection h3)), fun e => (by have h3 := hF8.own.tag e.symm; rw [tag_of hk] at h3; exact h1 (by injection h3))⟩
            have hor : ∀ M' : DiskM, M'.fs = M.fs → M'.cnt = M.cnt → ∀ w1, DiskAt w1 Ft6 d m gs rv D M' → u8.grownBy w1 (some d) → w1.heap.size = u8.heap.size → Cand w1 Ft6 d m gs rv D M' s.data.toList G (.slice A2 n2 c2) F := fun M' hf hc w1 h1 hg1 hs1 =>
              ⟨h1, hF8.keep (fun k hk => hg1.block k (by rcases hk with rfl | hk; exact hF8.lt; exact hF8.own.ltk hk) (fun e => by
                injection e with e
                have h3 := hD8.tagd
                rcases hk with hk | hk
                · rw [← e, hk, hF8.tagg] at h3; exact absurd h3 (by decide)
                · rw [← e, hF8.own.tag hk] at h3; exact absurd h3 (by decide))) (fun _ x => x), HC7.out.good, by rw [hf, hc]; exact HC7.out.or⟩
            have hFT : ∀ k x t, u8.heap[k]? = some (.cells #[x] t (0, 0)) → t ≠ 5 → t ≠ 89 → ¬ (k = d) := fun k x t h1 h2 h3 => (hbx _ _ _ h1 h2 h3).1
            have hput : ∀ (M' : DiskM) (n : Nat), M'.fs = M.fs → M'.cnt = M.cnt → n ≤ b.length → ∀ w1, DiskAt w1 Ft6 d m gs rv D M' → u8.grownBy w1 (some d) → w1.heap.size = u8.heap.size → Calls Tryz.prog 92 #[.int .i64 (n : Int), .pointer (some ⟨z + 4, 0, none⟩), .pointer (some ⟨z + 2, 0, none⟩), .pointer (some ⟨z, 0, none⟩), .pointer (some ⟨z + 1, 0, none⟩)] w1 (Retd (PutR w1 Ft6 d (M'.put s.data.toList ⟨F.b ++ b.take n, F.sure⟩))) := fun M' n hf hc hn w1 h1 hg1 hs1 => by
              have hkb : ∀ {k : Nat} {x : Value} {t : TypeId}, u8.heap[k]? = some (.cells #[x] t (0, 0)) → t ≠ 5 → t ≠ 89 → w1.heap[k]? = some (.cells #[x] t (0, 0)) := fun h4 h5 h6 => (hg1.block _ ((Array.getElem?_eq_some_iff.1 h4).1) (fun e => (hbx _ _ _ h4 h5 h6).1 (by injection e))).trans h4
              refine put_any (hor M' hf hc w1 h1 hg1 hs1) (fun k hk => by rw [hs1]; exact HLT8.out k hk) h24 (z + 4) (z + 2) z (z + 1) (hkb HX8.out.2.2.2.1 (by decide) (by decide)) _ (hkb HX8.out.2.2.1 (by decide) (by decide)) (hkb HX8.out.1 (by decide) (by decide)) (hkb HX8.out.2.1 (by decide) (by decide)) b ?_ n hn (by rw [hFb]; omega)
              have hrd := HRD8.out
              obtain ⟨A', c', e', r1, r2, r3⟩ := hrd
              refine ⟨A', c', e', r1, r2, fun hl => ?_⟩
              obtain ⟨bb, off, h4, h5, h6⟩ := r3 hl
              refine ⟨bb, off, h4, by rw [hs1]; omega, fun i hi => hg1.cell (h6 i hi) (fun e => ?_)⟩
              injection e with e
              have h7 := h6 i hi
              have h8 := hD8.disk
              change bb = d at e
              rw [e] at h7
              exact HNB.out h7 h8
            have hmf : ∀ (fn : Fn) (first cap : Array Value) (w : World), (Instr.makeFunc fn first cap).run Tryz.prog w = .ok (.func fn first cap) w := fun _ _ _ _ => rfl
            have HPUT := Lib.hid hput
            have HD8 := Lib.hid hD8
            have HBX := Lib.hid hbx
            clear hput hor hbx hFT hF8 hD8 hX8 q0 q1 hb8 hu8 hop0
            have hst : ∀ (f : Fn) (fi c : Array Value), (store ⟨u7.heap.size, 0, none⟩ (.func f fi c)).run Tryz.prog (u7.alloc (.cells #[Value.nilFunc] 70)) = .ok () (u7.alloc (.cells #[.func f fi c] 70)) := fun f fi c => store_new_func u7 _ f fi c _
            have yy0 : ∀ o : Obj, (u7.alloc o).cell? ⟨z, 0, none⟩ = some (.pointer (some ⟨d, 0, none⟩)) := fun o => Lib.cell?_alloc_some o (Go.Joins.cell_of_block HX7.out.1 0)
            have HZ7 := Lib.hid hz7
            clear hz7
            go_wp2_with fail
            rw [← HU8.out, HZ7.out]
            by_cases hl : M.left = 0
            · have hcF : ¬ Ft6 ((z + 6) + 1) := fun h => by have := HLT7.out _ h; have := HZ7.out; omega
              have hR4 : ∀ w1, u8.grownBy w1 (some d) → w1.heap.size = u8.heap.size → ∀ w2, PutR w1 Ft6 d (M.off.put s.data.toList ⟨F.b ++ b.take (min b.length M.torn.toNat), F.sure⟩) w2 → R4 ((z + 6)) (z + 2) z d w1 w2 := fun w1 hg1 hs1 w2 hp k hk => by
                obtain ⟨hd2, Ft2, hg2, -⟩ := hp
                by_cases hkd : k = d
                · rw [hkd]; exact hd2
                · have hno : ∀ {x : Value} {t : TypeId}, u8.heap[k]? = some (.cells #[x] t (0, 0)) → ¬ Ft6 k → w2.heap[k]? = w1.heap[k]? := fun h4 h5 => hg2.block k (by have := (Array.getElem?_eq_some_iff.1 h4).1; omega) h5
                  rcases hk with rfl | rfl | rfl | rfl
                  · exact hno HX8.out.2.2.2.2.1 HNF.out.1
                  · exact hno HX8.out.2.2.1 HNF.out.2.1
                  · exact hno HX8.out.1 HNF.out.2.2
                  · exact absurd rfl hkd
              refine (change_off1 HD8.out hgone hl _ 94 #[.pointer (some ⟨(z + 6), 0, none⟩), .pointer (some ⟨z + 2, 0, none⟩), .pointer (some ⟨z, 0, none⟩)] enters_app3 ((z + 6) + 1) 1 hcF (Go.Joins.cell_of_block HX8.out.2.2.2.2.2 0) (fun w2 => ∃ w1, Gr Ft6 u8 Ft6 w1 ∧ PutR w1 Ft6 d (M.off.put s.data.toList ⟨F.b ++ b.take (min b.length M.torn.toNat), F.sure⟩) w2) ?_).mono ?_
              · intro w1 h1 hg1 hs1
                have hkb : ∀ {k : Nat} {x : Value} {t : TypeId}, u8.heap[k]? = some (.cells #[x] t (0, 0)) → t ≠ 5 → t ≠ 89 → w1.heap[k]? = some (.cells #[x] t (0, 0)) := fun h4 h5 h6 => (hg1.block _ ((Array.getElem?_eq_some_iff.1 h4).1) (fun e => (HBX.out _ _ _ h4 h5 h6).1 (by injection e))).trans h4
                have h3 := app3_any w1 (z + 6) (z + 2) z d (z + 4) (z + 2) z (z + 1) A b.length cb M.torn h1.rng.2.2.1 _ (hkb HX8.out.2.2.2.2.1 (by decide) (by decide)) (hkb HX8.out.2.2.1 (by decide) (by decide)) (hkb HX8.out.1 (by decide) (by decide)) h1.c2 (hR4 w1.drew ⟨hg1.os, hg1.tape, hg1.output, hg1.size, hg1.block⟩ hs1) (HPUT.out M.off (min b.length M.torn.toNat) rfl rfl (Nat.min_le_left _ _) w1.drew (h1.keep fun _ _ => rfl) ⟨hg1.os, hg1.tape, hg1.output, hg1.size, hg1.block⟩ hs1)
                refine h3.mono ?_
                rintro e w2 ⟨hx, hp⟩
                exact ⟨hx, w1.drew, ⟨hg1.os, hg1.tape, hg1.output, hg1.size, (Gr.of_grown hg1 h1.fd).block, fun _ x => .inl x⟩, hp⟩
              · rintro e w2 ⟨rfl, w1, hg1, -, Ft2, hg2, hd2⟩
                have hmin : b.take (min b.length M.torn.toNat) = b.take M.torn.toNat := by rw [Nat.min_comm, ← List.take_take, List.take_of_length_le (Nat.le_refl b.length)]
                have hop1 : P = (90, (M.put s.data.toList ⟨F.b ++ b.take M.torn.toNat, F.sure⟩).off) := by rw [HOP.out, if_pos hl]
                have HOP1 := Lib.hid hop1
                have HE : Hid (AppR w Ft d P (.returned (.int .i64 90)) w2) := Lib.hid ⟨by rw [hop1], Ft2, (HG8.out.trans hg1).trans hg2, by rw [hop1]; rw [hmin] at hd2; exact hd2⟩
                clear hop1 hg1 hg2 hd2
                go_wp2_with fail
                go_ret
                exact HE.out
            · refine (change_do HD8.out hgone hl 93 #[.pointer (some ⟨(z + 6), 0, none⟩), .pointer (some ⟨z + 2, 0, none⟩)] enters_app2 _ (fun w2 => ∃ w1, Gr Ft6 u8 Ft6 w1 ∧ PutR w1 Ft6 d (M.spent.put s.data.toList ⟨F.b ++ b.take b.length, F.sure⟩) w2) ?_).mono ?_
              · intro w1 h1 hg1 hs1
                have hkb : ∀ {k : Nat} {x : Value} {t : TypeId}, u8.heap[k]? = some (.cells #[x] t (0, 0)) → t ≠ 5 → t ≠ 89 → w1.heap[k]? = some (.cells #[x] t (0, 0)) := fun h4 h5 h6 => (hg1.block _ ((Array.getElem?_eq_some_iff.1 h4).1) (fun e => (HBX.out _ _ _ h4 h5 h6).1 (by injection e))).trans h4
                have h3 := app2_any w1 (z + 6) (z + 2) (z + 4) (z + 2) z (z + 1) A b.length cb _ (hkb HX8.out.2.2.2.2.1 (by decide) (by decide)) (hkb HX8.out.2.2.1 (by decide) (by decide)) (HPUT.out M.spent b.length rfl rfl (Nat.le_refl _) w1 h1 hg1 hs1)
                refine h3.mono ?_
                rintro e w2 ⟨hx, hp⟩
                exact ⟨hx, w1, Gr.of_grown hg1 h1.fd, hp⟩
              · rintro e w2 ⟨rfl, w1, hg1, -, Ft2, hg2, hd2⟩
                have hop1 : P = (0, (M.put s.data.toList ⟨F.b ++ b, F.sure⟩).spent) := by rw [HOP.out, if_neg hl]
                have HE : Hid (AppR w Ft d P (.returned (.int .i64 0)) w2) := Lib.hid ⟨by rw [hop1], Ft2, (HG8.out.trans hg1).trans hg2, by rw [hop1]; rw [List.take_of_length_le (Nat.le_refl _)] at hd2; exact hd2⟩
                clear hop1 hg1 hg2 hd2
                go_wp2_with fail
                go_ret
                exact HE.out
  · have hd : (r == 0) = false := by simpa using hzr
    have hop : P = (r, M) := by rw [HP.out, app_ref (by rw [← HRM.out]; exact hzr), HRM.out]
    have HOP := Lib.hid hop
    clear hop
    go_wp2_with fail
    go_ret
    rw [HOP.out]
    have hb := HB0.out
    exact ⟨rfl, Ft, Gr.of_below hb, H.out.below hb⟩
end
end Go.Proofs.YtflkaladkbkbgaaGreat
