/- Images: made, forked. -/
import Derived.Test.YtdggeokpnaopiaaKImD
import Derived.Test.YtdggeokpnaopiaaKCodX
import Derived.Test.YtdggeokpnaopiaaKFive
import Derived.Laws.Tables
import Derived.Deep.WholeRow
namespace Go.Proofs.Ytdggeokpnaopiaa
set_option linter.unusedVariables false
set_option linter.unusedSimpArgs false
open Go.RowKit
set_option maxRecDepth 100000
def mayI (keep base : Int) : Bool := decide (0 ≤ keep) && decide (keep ≤ 64) && decide (0 ≤ base) && decide (base ≤ 1099511627776)
def newI (keep base : Int) : ImT := ⟨keep, base, base, fun _ => none⟩
theorem new_fine {keep base : Int} (h : mayI keep base = true) : (newI keep base).Fine := by
  unfold mayI at h
  simp only [Bool.and_eq_true, decide_eq_true_eq] at h
  exact ⟨h.1.1.1, h.1.1.2, h.1.2, Int.le_refl _, by have := h.2; show base ≤ _; omega⟩
def NewIR (w : World) (m : ImT) (e : Ending) (w' : World) : Prop := e = .returned (.tuple #[.pointer (some ⟨w.heap.size, 0, none⟩), .int .i64 0]) ∧ ImAt w' (fun _ => False) w.heap.size m ∧ Below w.heap.size w w'
set_option maxHeartbeats 4000000 in
theorem inew_bad (keep base : Int) (w : World) (h : mayI keep base = false) : Calls Try.prog 8 #[.int .i64 keep, .int .i64 base] w fun e w' => e = .returned (.tuple #[.pointer none, .int .i64 1]) ∧ Below w.heap.size w w' := by
  go_enter Try.func8, Try.ntmps8
  unfold mayI at h
  by_cases h1 : keep < 0
  · go_wp2_with fail
    go_ret2
    exact ⟨rfl, Below.refl _ _⟩
  by_cases h2 : 64 < keep
  · go_wp2_with fail
    go_ret2
    exact ⟨rfl, Below.refl _ _⟩
  by_cases h3 : base < 0
  · go_wp2_with fail
    go_ret2
    exact ⟨rfl, Below.refl _ _⟩
  by_cases h4 : 1099511627776 < base
  · go_wp2_with fail
    go_ret2
    exact ⟨rfl, Below.refl _ _⟩
  exfalso
  simp only [Bool.and_eq_false_iff, decide_eq_false_iff_not] at h
  omega
set_option maxHeartbeats 4000000 in
theorem inew_any (keep base : Int) (w : World) (h : mayI keep base = true) : Calls Try.prog 8 #[.int .i64 keep, .int .i64 base] w (NewIR w (newI keep base)) := by
  unfold mayI at h
  simp only [Bool.and_eq_true, decide_eq_true_eq] at h
  obtain ⟨⟨⟨h1, h2⟩, h3⟩, h4⟩ := h
  have g1 : ¬ (keep < 0) := by omega
  have g2 : ¬ (64 < keep) := by omega
  have g3 : ¬ (base < 0) := by omega
  have g4 : ¬ (1099511627776 < base) := by omega
  go_enter Try.func8, Try.ntmps8
  go_wp2_with fail
  go_ret2
  have hz : (((Try.zeroCells66.setIfInBounds 0 (Value.int IntKind.i64 keep)).setIfInBounds 1 (Value.int IntKind.i64 base)).setIfInBounds 2 (Value.int IntKind.i64 base)) = imCells (newI keep base) (List.replicate 64 (.pointer none)) := by rfl
  rw [hz]
  refine ⟨rfl, ⟨List.replicate 64 (.pointer none), heap_alloc_new w _, by simp, fun j hj => ?_⟩, (Below.refl _ _).alloc (Nat.le_refl _) _⟩
  rw [List.getElem_replicate]
  rfl
/-- A fork. -/
def ForkR (w : World) (S : Nat → Prop) (m : ImT) (e : Ending) (w' : World) : Prop := e = .returned (.pointer (some ⟨w.heap.size, 0, none⟩)) ∧ ImAt w' S w.heap.size m ∧ Below w.heap.size w w'
theorem ifork_nil (w : World) : Calls Try.prog 15 #[.pointer none] w fun e w' => e = .returned (.pointer none) ∧ w' = w := by
  go_enter Try.func15, Try.ntmps15
  go_wp2_with fail
  go_ret
  exact ⟨rfl, rfl⟩
theorem results_cell_three {fn : Func} {p u v : Tmp} (h : fn.results = #[.cell p 36, .tmp u, .tmp v]) (tmps : Array Value) (w : World) (g : Nat) (t : TypeId) (cs : Array Value) (fr : Nat × Nat)
    (hp : tmps.getD p undef = .pointer (some ⟨g, 0, none⟩)) (hg : w.heap[g]? = some (.cells cs t fr)) (hi : (Try.prog.info? 36).map (·.size) = some cs.size) :
    (results fn tmps).run Try.prog w = .ok (.tuple #[.agg cs, tmps.getD u undef, tmps.getD v undef]) w := by
  have hp' : tmps[p]?.getD undef = .pointer (some ⟨g, 0, none⟩) := by simpa using hp
  simp [results, h, hp', asAddr, run_loadVar_row w g t 36 cs fr _ hg Try.underlying36 rfl hi]
theorem five_below {B : Nat} {a w : World} {p : Nat} (h : Below B a w) (hp : B ≤ p) (o : Nat) (c0 c1 c2 c3 c4 : Value) : Below B a (five w p o c0 c1 c2 c3 c4) := by
  unfold five
  exact ((((h.setCell (p := ⟨p, o, none⟩) hp c0).setCell (p := ⟨p, o + 1, none⟩) hp c1).setCell (p := ⟨p, o + 2, none⟩) hp c2).setCell (p := ⟨p, o + 3, none⟩) hp c3).setCell (p := ⟨p, o + 4, none⟩) hp c4
/-- What is known of an index. -/
def ImT.got (m : ImT) (i : Int) : VT × Int × Int :=
  if i < 1 ∨ m.top < i then (zeroT, 0, 4)
  else if i < max m.base (m.top - m.keep) + 1 then (zeroT, 3, 0)
  else match m.ring (i.toNat % m.keep.toNat) with
    | none => (zeroT, 1, 0)
    | some t => (t, 2, 0)
def GotR (w : World) (r : VT × Int × Int) (e : Ending) (w' : World) : Prop := ∃ v, e = .returned (.tuple #[v, .int .i64 r.2.1, .int .i64 r.2.2]) ∧ LV w' (New w.heap.size w') r.1 v ∧ Below w.heap.size w w'
set_option maxHeartbeats 4000000 in
theorem iget_nil (i : Int) (w : World) : Calls Try.prog 27 #[.pointer none, .int .i64 i] w (GotR w (zeroT, 0, 6)) := by
  have hx : Box (w.alloc (.cells #[.int .i64 0, .int .i64 0, .string ⟨#[]⟩, .slice none 0 0, .slice none 0 0] 36)) w.heap.size _ _ _ _ _ := Box.new _ _ _ _ _
  have HX := Lib.hid hx
  clear hx
  go_enter Try.func27, Try.ntmps27
  go_wp2_with fail
  refine bodyPost_ret (results_cell_three rfl _ _ w.heap.size 36 _ (0, 0) rfl HX.out (by kernel_rfl)) rfl ?_
  exact ⟨_, rfl, zero_lv _ _, (Below.refl _ _).alloc (Nat.le_refl _) _⟩
section
variable {w : World} {S : Nat → Prop} {g : Nat} {m : ImT}
set_option maxHeartbeats 8000000 in
theorem iget_any (h : ImAt w S g m) (hf : m.Fine) (hS : ∀ b, S b → b < w.heap.size) (i : Int) : Calls Try.prog 27 #[.pointer (some ⟨g, 0, none⟩), .int .i64 i] w (GotR w (m.got i)) := by
  have hx : Box (w.alloc (.cells #[.int .i64 0, .int .i64 0, .string ⟨#[]⟩, .slice none 0 0, .slice none 0 0] 36)) w.heap.size _ _ _ _ _ := Box.new _ _ _ _ _
  have h1 : ImAt (w.alloc (.cells #[.int .i64 0, .int .i64 0, .string ⟨#[]⟩, .slice none 0 0, .slice none 0 0] 36)) S g m := h.keep (Below.heap_alloc w _ g h.lt) fun b hb => Below.heap_alloc w _ b (hS b hb)
  have hb1 : Below w.heap.size w (w.alloc (.cells #[.int .i64 0, .int .i64 0, .string ⟨#[]⟩, .slice none 0 0, .slice none 0 0] 36)) := (Below.refl _ _).alloc (Nat.le_refl _) _
  have HX := Lib.hid hx
  have HI := Lib.hid h1
  have HB := Lib.hid hb1
  have HF := Lib.hid hf
  have HS := Lib.hid hS
  have HFI := Lib.hid (ifirst_any h1 hf)
  have y2 := h1.c2
  obtain ⟨T, hT⟩ : ∃ a, a = m.top := ⟨_, rfl⟩
  rw [← hT] at y2
  have HT := Lib.hid hT
  obtain ⟨F, hF⟩ : ∃ a, a = max m.base (m.top - m.keep) + 1 := ⟨_, rfl⟩
  rw [← hF] at HFI
  have HFF := Lib.hid hF
  have HG : Hid (m.got i = if i < 1 ∨ T < i then ((zeroT, 0, 4) : VT × Int × Int) else if i < F then (zeroT, 3, 0) else match m.ring (i.toNat % m.keep.toNat) with
    | none => (zeroT, 1, 0)
    | some t => (t, 2, 0)) := Lib.hid (by rw [hT, hF]; rfl)
  clear hx h1 hb1 h hf hS hT hF
  generalize m.got i = R at *
  go_enter Try.func27, Try.ntmps27
  by_cases h1 : i < 1
  · go_wp2_with fail
    refine bodyPost_ret (results_cell_three rfl _ _ w.heap.size 36 _ (0, 0) rfl HX.out (by kernel_rfl)) rfl ?_
    rw [HG.out, if_pos (.inl h1)]
    exact ⟨_, rfl, zero_lv _ _, HB.out⟩
  by_cases h2 : T < i
  · go_wp2_with fail
    refine bodyPost_ret (results_cell_three rfl _ _ w.heap.size 36 _ (0, 0) rfl HX.out (by kernel_rfl)) rfl ?_
    rw [HG.out, if_pos (.inr h2)]
    exact ⟨_, rfl, zero_lv _ _, HB.out⟩
  have HN := Lib.hid (show ¬ (i < 1 ∨ T < i) by omega)
  go_wp2_with fail
  refine HFI.out.mono ?_
  rintro e w1 ⟨rfl, hb⟩
  have hx1 := HX.out.call hb
  have hi1 := HI.out.below (fun b hb => by have := HS.out b hb; simp; omega) hb
  have hb1 := HB.out.trans (hb.mono HB.out.size)
  have r0 := hx1.c0
  have r1 := hx1.c1
  have r2 := hx1.c2
  have r3 := hx1.c3
  have r4 := hx1.c4
  have rf : ∀ i, w1.frozen? ⟨w.heap.size, i, none⟩ = false := fun i => hx1.free i
  have HX1 := Lib.hid hx1
  have HI1 := Lib.hid hi1
  have HB1 := Lib.hid hb1
  clear hb hx1 hi1 hb1 HX HI HB HFI y2
  by_cases h3 : i < F
  · go_wp2_with fail
    refine bodyPost_ret (results_cell_three rfl _ _ w.heap.size 36 _ (0, 0) rfl (five_box HX1.out) (by kernel_rfl)) rfl ?_
    rw [HG.out, if_neg HN.out, if_pos h3]
    exact ⟨_, rfl, zero_lv _ _, five_below HB1.out (Nat.le_refl _) _ _ _ _ _ _⟩
  have hkp : 0 < m.keep := by
    have := HFF.out; have := HT.out; have k0 := HF.out.k0; omega
  have hk1 := HF.out.k1
  have hb0 := HF.out.b0
  have hbT := HF.out.b1
  have ht1 := HF.out.t1
  obtain ⟨n, rfl⟩ : ∃ n : Nat, i = (n : Int) := ⟨i.toNat, by omega⟩
  obtain ⟨k, hk⟩ : ∃ n : Nat, m.keep = (n : Int) := ⟨m.keep.toNat, by omega⟩
  have hkl : 0 < k ∧ k ≤ 64 := by omega
  have hnl : (n : Int) ≤ 9223372036854775807 := by have := HT.out; omega
  have hj : n % k < 64 := by have := Nat.mod_lt n hkl.1; omega
  have hG2 : R = match m.ring (n % k) with
    | none => ((zeroT, 1, 0) : VT × Int × Int)
    | some t => (t, 2, 0) := by rw [HG.out, if_neg HN.out, if_neg h3, hk]; rfl
  obtain ⟨j, hjj⟩ : ∃ j, j = n % k := ⟨_, rfl⟩
  have hpl := iplace_any (w := w1.drew) (HI1.out.keep rfl fun _ _ => rfl) k n hk hkl.1 hkl.2 hnl
  rw [← hjj] at hG2 hj hpl
  have HPL := Lib.hid hpl
  have HJ := Lib.hid hj
  have HG2 := Lib.hid hG2
  obtain ⟨c, hc, hsl⟩ := HI1.out.slot j hj
  have HSL := Lib.hid hsl
  have zc := cell_ka (w := w1.drew) (i := 3 + j) (show w1.drew.heap[g]? = some _ from (Array.getElem?_eq_getElem HI1.out.lt)) hc
  obtain ⟨a, rfl⟩ : ∃ a, c = .pointer a := by
    have h := HSL.out
    revert h
    generalize m.ring j = o
    intro h
    cases o with
    | none => exact ⟨_, h⟩
    | some x => obtain ⟨q, _, _, _, _, _, h1, -⟩ := h; exact ⟨_, h1⟩
  clear hkp hk1 hb0 hbT ht1 hk hkl hnl hjj hpl hj hG2 hsl hc h1 h2
  go_wp2_with fail
  refine wp_region_OT KeepA KeepA.refl KeepA.trans [] (.pure [0, 1, 2, 4, 5] (.step 3 (.pure [6, 7, 8] (.tail [])))) (by kernel_rfl) (by kernel_rfl) (fun _ d _ _ _ h => by cases d <;> exact h) ?_
  refine ot_pure ?_
  simp only [atNats, List.filterMap_cons, List.filterMap_nil, List.getElem?_toArray, List.getElem?_cons_succ, List.getElem?_cons_zero]
  show wpQuiet _ _ _ _ [_, _, _, _, _] _
  repeat (go_big_quiet_step (fail))
  refine wpQuiet_nil ?_
  refine ot_step rfl (fun K hK => ?_)
  go_simp
  refine HPL.out.mono ?_
  rintro e w2 ⟨rfl, rfl⟩
  go_simp
  refine hK _ _ (.inr (KeepA.refl _)) ?_
  clear hK K
  have hin : ¬ ((64 : Nat) ≤ j) := by have := HJ.out; omega
  have hil : ((j : Int) < 64) := by have := HJ.out; omega
  have hi0 : (0 : Int) ≤ (j : Int) := by omega
  refine ot_pure ?_
  simp only [atNats, List.filterMap_cons, List.filterMap_nil, List.getElem?_toArray, List.getElem?_cons_succ, List.getElem?_cons_zero]
  show wpQuiet _ _ _ _ [_, _, _] _
  repeat (go_big_quiet_step (fail))
  refine wpQuiet_nil ?_
  refine ot_end ?_
  clear zc
  have HX2 : Hid (Box w1.drew w.heap.size _ _ _ _ _) := Lib.hid HX1.out
  have HB2 := Lib.hid HB1.out.drew
  have HSL2 := Lib.hid (HSL.out.keep (w' := w1.drew) fun _ _ => rfl)
  have HS2 : Hid (∀ b, S b → b < w1.drew.heap.size) := Lib.hid fun b hb => Nat.lt_of_lt_of_le (HS.out b hb) HB1.out.size
  clear HX1 HI1 HB1 HPL HSL r0 r1 r2 r3 r4 rf
  generalize hw2 : w1.drew = w2 at *
  clear hw2
  have rf : ∀ i, w2.frozen? ⟨w.heap.size, i, none⟩ = false := fun i => HX2.out.free i
  have r0 := HX2.out.c0
  have r1 := HX2.out.c1
  have r2 := HX2.out.c2
  have r3 := HX2.out.c3
  have r4 := HX2.out.c4
  cases ho : m.ring j with
  | none =>
    have hs := HSL2.out
    have hr := HG2.out
    rw [ho] at hs hr
    injection hs with hs
    subst hs hr
    clear ho
    go_wp2_with fail
    refine bodyPost_ret (results_cell_three rfl _ _ w.heap.size 36 _ (0, 0) rfl (five_box HX2.out) (by kernel_rfl)) rfl ?_
    exact ⟨_, rfl, zero_lv _ _, five_below HB2.out (Nat.le_refl _) _ _ _ _ _ _⟩
  | some t =>
    have hs := HSL2.out
    have hr := HG2.out
    rw [ho] at hs hr
    obtain ⟨q, a0, a1, a2, a3, a4, h1, h2, h3, h4⟩ := hs
    injection h1 with h1
    subst h1 hr
    have q0 := h2.c0
    have q1 := h2.c1
    have q2 := h2.c2
    have q3 := h2.c3
    have q4 := h2.c4
    have HCL := Lib.hid (clone_any S t _ _ HS2.out h4)
    clear h2 h3 h4 ho
    go_wp2_with fail
    refine HCL.out.mono ?_
    rintro e w3 ⟨v', rfl, hv, hb⟩
    obtain ⟨A1, c1, A1', c1', rfl, -⟩ := hv.shape
    have hx3 := HX2.out.call hb
    have HV := Lib.hid hv
    have HX3 := Lib.hid hx3
    have HB3 := Lib.hid (HB2.out.trans (hb.mono HB2.out.size))
    have HLT := Lib.hid HX2.out.lt
    have HSZ := Lib.hid HB2.out.size
    clear hv hb HCL q0 q1 q2 q3 q4 r0 r1 r2 r3 r4 rf HX2 HB2
    have rf : ∀ i, w3.frozen? ⟨w.heap.size, i, none⟩ = false := fun i => hx3.free i
    have r0 := hx3.c0
    have r1 := hx3.c1
    have r2 := hx3.c2
    have r3 := hx3.c3
    have r4 := hx3.c4
    clear hx3
    go_wp2_with fail
    refine bodyPost_ret (results_cell_three rfl _ _ w.heap.size 36 _ (0, 0) rfl (five_box HX3.out) (by kernel_rfl)) rfl ?_
    refine ⟨_, rfl, ?_, five_below HB3.out (Nat.le_refl _) _ _ _ _ _ _⟩
    refine (HV.out.keep (w' := five w3 w.heap.size 0 _ _ _ _ _) fun b hb => five_other _ _ _ _ _ _ _ _ b (by have := hb.1; have := HLT.out; omega)).imp fun b hb => ?_
    have := hb.1
    have := hb.2
    have := HSZ.out
    exact ⟨by omega, by simp; omega⟩
end
end Go.Proofs.Ytdggeokpnaopiaa

/- Images: a fork. -/
namespace Go.Proofs.Ytdggeokpnaopiaa
set_option linter.unusedVariables false
set_option linter.unusedSimpArgs false
open Go.RowKit
set_option maxRecDepth 100000
theorem slot_one {w : World} {S : Nat → Prop} {c : Value} {o : Option VT} (h : SlotAt w S c o) : c.oneCell' = true := by
  cases o with
  | none => have h : c = .pointer none := h; rw [h]; rfl
  | some t => obtain ⟨q, a0, a1, a2, a3, a4, h1, -⟩ := h; rw [h1]; rfl
theorem im_info {m : ImT} {C : List Value} (h : C.length = 64) : (Try.prog.info? 66).map (·.size) = some (imCells m C).size := by
  have e : (imCells m C).size = 67 := by unfold imCells; simp [h]
  have k : (Try.prog.info? 66).map (·.size) = some 67 := by kernel_rfl
  rw [e]; exact k
section
variable {w : World} {S : Nat → Prop} {g : Nat} {m : ImT}
set_option maxHeartbeats 8000000 in
theorem ifork_any (h : ImAt w S g m) (hS : ∀ b, S b → b < w.heap.size) : Calls Try.prog 15 #[.pointer (some ⟨g, 0, none⟩)] w (ForkR w S m) := by
  have HI := Lib.hid h
  have HS := Lib.hid hS
  obtain ⟨C, h1, h2, h3⟩ := h
  have hi := im_info (m := m) h2
  have hsz : (imCells m C).size = 67 := by unfold imCells; simp [h2]
  have hone : (imCells m C).all (·.oneCell') = true := by
    rw [Array.all_eq_true_iff_forall_mem]
    intro x hx
    unfold imCells at hx
    simp only [List.mem_toArray, List.mem_cons] at hx
    rcases hx with rfl | rfl | rfl | hx
    · rfl
    · rfl
    · rfl
    · obtain ⟨j, hj, rfl⟩ := List.getElem_of_mem hx
      exact slot_one (h3 j hj)
  have HC3 := Lib.hid h3
  have HC2 := Lib.hid h2
  have HD : Hid (imCells m C = imCells m C) := rfl
  have HH1 := Lib.hid h1
  obtain ⟨D, hD⟩ : ∃ D, D = imCells m C := ⟨_, rfl⟩
  rw [← hD] at h1 hi hsz hone
  have HDD := Lib.hid hD
  have hw2 : (w.alloc (.cells Try.zeroCells66 66)).heap[w.heap.size]? = some (.cells Try.zeroCells66 66 (0, 0)) := heap_alloc_new w _
  have hold : Try.zeroCells66.size = D.size := by rw [hsz]; rfl
  clear h2 h3 hS hD hsz
  have HALL : Hid (w.heap[g]? = some (.cells D 66 (0, 0)) ∧ (Try.prog.info? 66).map (·.size) = some D.size ∧ D.all (·.oneCell') = true ∧ Try.zeroCells66.size = D.size) := Lib.hid ⟨h1, hi, hone, hold⟩
  have HW2 := Lib.hid hw2
  clear h1 hi hone hold hw2
  go_enter Try.func15, Try.ntmps15
  go_wp2_with (first | (refine wpList_load_row rfl 66 _ rfl g rfl _ _ _ _ HALL.out.1 Try.underlying66 rfl HALL.out.2.1 ?_) | (refine wpList_store_row rfl 66 _ _ rfl w.heap.size D rfl rfl _ _ HW2.out HALL.out.2.1 HALL.out.2.2.2 HALL.out.2.2.1 ?_))
  go_ret
  rw [World.setRow_alloc_new, HDD.out]
  refine ⟨rfl, ⟨C, heap_alloc_new w _, HC2.out, fun j hj => (HC3.out j hj).keep fun b hb => Below.heap_alloc w _ b (HS.out b hb)⟩, (Below.refl _ _).alloc (Nat.le_refl _) _⟩
end
end Go.Proofs.Ytdggeokpnaopiaa
