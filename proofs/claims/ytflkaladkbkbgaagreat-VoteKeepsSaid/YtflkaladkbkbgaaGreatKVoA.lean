/- Steps, done one behind the other; a file of a disk by its name. -/
import Derived.Test.YtflkaladkbkbgaaGreatKFlU
import Derived.Test.YtflkaladkbkbgaaGreatKFlP
namespace Go.Proofs.YtflkaladkbkbgaaGreat
set_option linter.unusedVariables false
set_option linter.unusedSimpArgs false
open Go.RowKit Go.Maps
set_option maxRecDepth 100000
/-- What is done next. -/
structure Stp where
  f : Nat
  first : Array Value
  caps : Array Value
def Stp.val (s : Stp) : Value := .func (.func s.f) s.first s.caps
set_option maxHeartbeats 2000000 in
theorem do_any (vs : List Stp) (hn : vs.length ≤ 1000) (b c : Nat) (w : World) (P : Nat → World → Prop) (R : Int → World → Prop) (h0 : P 0 w) (hc : ∀ i W, P i W → ∀ j (h : j < vs.length), W.cell? ⟨b, j, none⟩ = some vs[j].val)
    (hf : ∀ j (h : j < vs.length), EntersF vs[j].f)
    (hs : ∀ i (h : i < vs.length) W, P i W → Calls Tryz.prog vs[i].f (vs[i].first ++ vs[i].caps) W fun e W' => ∃ r : Int, e = .returned (.int .i64 r) ∧ ((r = 0 ∧ P (i + 1) W') ∨ (r ≠ 0 ∧ R r W'))) :
    Calls Tryz.prog 17 #[.slice (some ⟨b, 0, none⟩) vs.length c] w fun e w' => ∃ r : Int, e = .returned (.int .i64 r) ∧ ((r = 0 ∧ P vs.length w') ∨ (r ≠ 0 ∧ R r w')) := by
  have H0 := Lib.hid h0
  have HC := Lib.hid hc
  have HF := Lib.hid hf
  have HS := Lib.hid hs
  clear h0 hc hf hs
  go_enter Tryz.func17, Tryz.ntmps17
  go_wp2_with fail
  go_loopw [8] (fun i wr => ∃ k : Nat, i = .int .i64 k ∧ k ≤ vs.length ∧ Hid (P k wr)) (fun i _ => vs.length - (intOf i).toNat)
  case atStart => exact ⟨0, rfl, Nat.zero_le _, H0⟩
  case round =>
    obtain ⟨k, rfl, hk, HP⟩ := hrel
    by_cases hlt : k < vs.length
    · have hck := HC.out k wr HP.out k hlt
      have hcf : ∀ (args : Array Value) (W : World), (callFunc vs[k].f args).run Tryz.prog W = .ok (.enter vs[k].f args) W := HF.out k hlt
      have HSK := Lib.hid (HS.out k hlt wr HP.out)
      obtain ⟨s, hs⟩ : ∃ s, s = vs[k] := ⟨_, rfl⟩
      rw [← hs] at hck hcf HSK
      unfold Stp.val at hck
      clear hs
      obtain ⟨f, first, caps⟩ := s
      go_wp2_with fail
      first | refine HSK.out.mono ?_ | (rw [Array.append_empty]; refine HSK.out.mono ?_) | (simp only [Array.append_empty, Array.empty_append]; refine HSK.out.mono ?_)
      rintro e w2 ⟨r, rfl, hr⟩
      rcases hr with ⟨rfl, hP⟩ | ⟨hr, hR⟩
      · have HP2 := Lib.hid hP
        clear hP
        go_wp2_with fail
        go_roundw
        case rel => exact ⟨k + 1, by go_num, by omega, HP2⟩
        case measure => simp [intOf]; omega
      · have hd : (r == 0) = false := by simpa using hr
        have HR2 := Lib.hid hR
        clear hR
        go_wp2_with fail
        go_ret
        exact ⟨r, rfl, .inr ⟨hr, HR2.out⟩⟩
    · obtain rfl : k = vs.length := by omega
      go_wp2_with fail
      go_ret
      exact ⟨0, rfl, .inl ⟨rfl, HP.out⟩⟩
/-- A file, as it is handed about. -/
def fv (d : Nat) (s : ByteArray) : Value := .agg #[.pointer (some ⟨d, 0, none⟩), .string s]
theorem fv_blk (w : World) (d : Nat) (s : ByteArray) : (w.alloc (.cells #[.pointer (some ⟨d, 0, none⟩), .string s] 57)).heap[w.heap.size]? = some (.cells #[.pointer (some ⟨d, 0, none⟩), .string s] 57 (0, 0)) := heap_alloc_new w _
set_option maxHeartbeats 2000000 in
theorem votesOn_any (d : Nat) (w : World) : Calls Tryz.prog 18 #[.pointer (some ⟨d, 0, none⟩)] w fun e w' => e = .returned (fv d ⟨#[118, 111, 116, 101]⟩) ∧ Below w.heap.size w w' := by
  go_enter Tryz.func18, Tryz.ntmps18
  go_wp2_with fail
  refine bodyPost_ret (results_cell_row rfl _ _ w.heap.size 57 _ (0, 0) _ rfl (fv_blk w d _) Tryz.underlying57 rfl (by kernel_rfl)) rfl ?_
  exact ⟨rfl, two_below w _⟩
set_option maxHeartbeats 2000000 in
theorem draft_any (d : Nat) (s : ByteArray) (w : World) (hs : s.size ≤ 1000) : Calls Tryz.prog 19 #[.agg #[.pointer (some ⟨d, 0, none⟩), .string s]] w fun e w' => e = .returned (fv d (s ++ ⟨#[46, 110, 101, 119]⟩)) ∧ Below w.heap.size w w' := by
  go_enter Tryz.func19, Tryz.ntmps19
  go_wp2_with fail
  have hb := fv_blk (w.alloc (.cells #[.pointer (some ⟨d, 0, none⟩), .string s] 57)) d (s ++ ⟨#[46, 110, 101, 119]⟩)
  have hz : (w.alloc (.cells #[.pointer (some ⟨d, 0, none⟩), .string s] 57)).heap.size = w.heap.size + 1 := by simp
  rw [hz] at hb
  refine bodyPost_ret (results_cell_row rfl _ _ (w.heap.size + 1) 57 _ (0, 0) _ rfl hb Tryz.underlying57 rfl (by kernel_rfl)) rfl ?_
  exact ⟨rfl, (two_below w _).trans ((two_below _ _).mono (by simp))⟩
section
variable {w : World} {Ft : Nat → Prop} {d : Nat} {M : DiskM}
/-- What a step says, and what it leaves. -/
theorem AppR.pre {w w0 : World} {r : Int × DiskM} {e : Ending} {w' : World} (h : AppR w0 Ft d r e w') (hb : Below w.heap.size w w0) : AppR w Ft d r e w' := by
  obtain ⟨he, Ft', hg, hd⟩ := h
  exact ⟨he, Ft', (Gr.of_below hb).trans hg, hd⟩
set_option maxHeartbeats 2000000 in
theorem fiSync_any (h : DAt w Ft d M) (s : ByteArray) (hs : s.size ≤ 140737488351232) : Calls Tryz.prog 45 #[.agg #[.pointer (some ⟨d, 0, none⟩), .string s]] w (AppR w Ft d (M.snc s.data.toList)) := by
  obtain ⟨u, hu⟩ : ∃ W, W = w.alloc (.cells #[.pointer (some ⟨d, 0, none⟩), .string s] 57) := ⟨_, rfl⟩
  have hb : Below w.heap.size w u := by rw [hu]; exact two_below w _
  have HC := Lib.hid (sync_any (h.below hb) s hs)
  have HB := Lib.hid hb
  have HU := Lib.hid hu
  obtain ⟨R, hR⟩ : ∃ R, R = M.snc s.data.toList := ⟨_, rfl⟩
  rw [← hR] at HC ⊢
  clear h hb hu hR
  go_enter Tryz.func45, Tryz.ntmps45
  go_wp2_with fail
  rw [← HU.out]
  refine HC.out.mono ?_
  rintro e w2 ha
  have HA := Lib.hid (ha.pre HB.out)
  obtain ⟨rfl, -⟩ := ha
  go_wp2_with fail
  go_ret
  exact HA.out
set_option maxHeartbeats 2000000 in
theorem fiRemove_any (h : DAt w Ft d M) (s : ByteArray) (hs : s.size ≤ 140737488351232) : Calls Tryz.prog 20 #[.agg #[.pointer (some ⟨d, 0, none⟩), .string s]] w (AppR w Ft d (if (M.rem s.data.toList).1 = 4 then 0 else (M.rem s.data.toList).1, (M.rem s.data.toList).2)) := by
  obtain ⟨u, hu⟩ : ∃ W, W = w.alloc (.cells #[.pointer (some ⟨d, 0, none⟩), .string s] 57) := ⟨_, rfl⟩
  have hb : Below w.heap.size w u := by rw [hu]; exact two_below w _
  have HC := Lib.hid (remove_any (h.below hb) s hs)
  have HB := Lib.hid hb
  have HU := Lib.hid hu
  obtain ⟨R, hR⟩ : ∃ R, R = M.rem s.data.toList := ⟨_, rfl⟩
  rw [← hR] at HC ⊢
  obtain ⟨r, M'⟩ := R
  obtain ⟨Q, hQ⟩ : ∃ Q : Int × DiskM, Q = (if r = 4 then 0 else r, M') := ⟨_, rfl⟩
  have HQ := Lib.hid hQ
  rw [show ((if (r, M').1 = 4 then 0 else (r, M').1, (r, M').2) : Int × DiskM) = Q from hQ.symm]
  clear h hb hu hR hQ
  go_enter Tryz.func20, Tryz.ntmps20
  go_wp2_with fail
  rw [← HU.out]
  refine HC.out.mono ?_
  rintro e w2 ha
  have HA := Lib.hid (ha.pre HB.out)
  obtain ⟨rfl, -⟩ := ha
  by_cases h4 : r = 4
  · subst h4
    go_wp2_with fail
    go_ret
    obtain ⟨-, h9⟩ := HA.out
    rw [HQ.out]
    exact ⟨rfl, h9⟩
  · have hd : (r == 4) = false := by simpa using h4
    go_wp2_with fail
    go_ret
    obtain ⟨-, h9⟩ := HA.out
    rw [HQ.out, if_neg h4]
    exact ⟨rfl, h9⟩
end
theorem enters_fiSync : EntersF 45 := fun _ _ => by simp [callFunc, go_sem, Tryz.func45, Tryz.f45]
theorem enters_fiRemove : EntersF 20 := fun _ _ => by simp [callFunc, go_sem, Tryz.func20, Tryz.f20]
theorem enters_fiPut1 : EntersF 70 := fun _ _ => by simp [callFunc, go_sem, Tryz.func70, Tryz.f70]
theorem enters_fiBecomes1 : EntersF 77 := fun _ _ => by simp [callFunc, go_sem, Tryz.func77, Tryz.f77]
set_option maxHeartbeats 2000000 in
theorem fiPut_any (d : Nat) (s : ByteArray) (A : Option Addr) (n c : Nat) (w : World) : Calls Tryz.prog 44 #[.agg #[.pointer (some ⟨d, 0, none⟩), .string s], .slice A n c] w fun e w' => e = .returned (.func (.func 70) #[] #[.pointer (some ⟨w.heap.size, 0, none⟩), .pointer (some ⟨w.heap.size + 1, 0, none⟩)]) ∧ w' = (w.alloc (.cells #[.pointer (some ⟨d, 0, none⟩), .string s] 57)).alloc (.cells #[.slice A n c] 33) := by
  have hmf : ∀ (fn : Fn) (first cap : Array Value) (w : World), (Instr.makeFunc fn first cap).run Tryz.prog w = .ok (.func fn first cap) w := fun _ _ _ _ => rfl
  go_enter Tryz.func44, Tryz.ntmps44
  go_wp2_with fail
  go_ret
  exact ⟨rfl, rfl⟩
set_option maxHeartbeats 2000000 in
theorem fiBecomes_any (d : Nat) (s t : ByteArray) (w : World) : Calls Tryz.prog 51 #[.agg #[.pointer (some ⟨d, 0, none⟩), .string s], .agg #[.pointer (some ⟨d, 0, none⟩), .string t]] w fun e w' => e = .returned (.func (.func 77) #[] #[.pointer (some ⟨w.heap.size, 0, none⟩), .pointer (some ⟨w.heap.size + 1, 0, none⟩)]) ∧ w' = (w.alloc (.cells #[.pointer (some ⟨d, 0, none⟩), .string s] 57)).alloc (.cells #[.pointer (some ⟨d, 0, none⟩), .string t] 57) := by
  have hmf : ∀ (fn : Fn) (first cap : Array Value) (w : World), (Instr.makeFunc fn first cap).run Tryz.prog w = .ok (.func fn first cap) w := fun _ _ _ _ => rfl
  go_enter Tryz.func51, Tryz.ntmps51
  go_wp2_with fail
  go_ret
  exact ⟨rfl, rfl⟩
section
variable {w : World} {Ft : Nat → Prop} {d : Nat} {M : DiskM}
set_option maxHeartbeats 2000000 in
theorem fiPut1_any (h : DAt w Ft d M) (s : ByteArray) (hs : s.size ≤ 140737488351232) (vb : Value) (b : List UInt8) (hrd : Rd w w.heap.size vb b) (p q : Nat) (hp : w.heap[p]? = some (.cells #[.pointer (some ⟨d, 0, none⟩), .string s] 57 (0, 0))) (hq : w.heap[q]? = some (.cells #[vb] 33 (0, 0))) :
    Calls Tryz.prog 70 #[.pointer (some ⟨p, 0, none⟩), .pointer (some ⟨q, 0, none⟩)] w (AppR w Ft d (M.app s.data.toList b)) := by
  obtain ⟨A, c, rfl⟩ := hrd.shapeY
  have HC := Lib.hid (append_any h s hs _ b hrd)
  have x0 := Go.Joins.cell_of_block hp 0
  have x1 := Go.Joins.cell_of_block hp 1
  have x2 := Go.Joins.cell_of_block hq 0
  obtain ⟨R, hR⟩ : ∃ R, R = M.app s.data.toList b := ⟨_, rfl⟩
  rw [← hR] at HC ⊢
  clear h hrd hp hq hR
  go_enter Tryz.func70, Tryz.ntmps70
  go_wp2_with fail
  refine HC.out.mono ?_
  rintro e w2 ha
  have HA := Lib.hid ha
  obtain ⟨rfl, -⟩ := ha
  go_wp2_with fail
  go_ret
  exact HA.out
set_option maxHeartbeats 2000000 in
theorem fiBecomes1_any (h : DAt w Ft d M) (s t : ByteArray) (hs : s.size ≤ 140737488351232) (ht : t.size ≤ 140737488351232) (p q : Nat) (hp : w.heap[p]? = some (.cells #[.pointer (some ⟨d, 0, none⟩), .string s] 57 (0, 0))) (hq : w.heap[q]? = some (.cells #[.pointer (some ⟨d, 0, none⟩), .string t] 57 (0, 0))) :
    Calls Tryz.prog 77 #[.pointer (some ⟨p, 0, none⟩), .pointer (some ⟨q, 0, none⟩)] w (AppR w Ft d (M.ren s.data.toList t.data.toList)) := by
  have HC := Lib.hid (rename_any h s t hs ht)
  have x0 := Go.Joins.cell_of_block hp 0
  have x1 := Go.Joins.cell_of_block hp 1
  have x2 := Go.Joins.cell_of_block hq 1
  obtain ⟨R, hR⟩ : ∃ R, R = M.ren s.data.toList t.data.toList := ⟨_, rfl⟩
  rw [← hR] at HC ⊢
  clear h hp hq hR
  go_enter Tryz.func77, Tryz.ntmps77
  go_wp2_with fail
  refine HC.out.mono ?_
  rintro e w2 ha
  have HA := Lib.hid ha
  obtain ⟨rfl, -⟩ := ha
  go_wp2_with fail
  go_ret
  exact HA.out
end
end Go.Proofs.YtflkaladkbkbgaaGreat
