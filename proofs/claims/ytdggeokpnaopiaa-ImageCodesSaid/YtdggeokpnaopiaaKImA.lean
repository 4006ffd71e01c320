/- Images: documents as they were ahead of the last entries; what lies in the heap. -/
import Derived.Test.YtdggeokpnaopiaaKValK
import Derived.Test.YtdggeokpnaopiaaKFive
import Derived.Test.YtdggeokpnaopiaaKVarH
import Derived.Test.YtdggeokpnaopiaaKCodE
import Derived.Test.YtdggeokpnaopiaaKRefD2
import Derived.Test.YtdggeokpnaopiaaKReg
namespace Go.Proofs.Ytdggeokpnaopiaa
set_option linter.unusedVariables false
set_option linter.unusedSimpArgs false
open Go.RowKit
set_option maxRecDepth 100000
/-- How many are kept, the base, the top, and what lies at each place of the ring. -/
structure ImT where
  keep : Int
  base : Int
  top : Int
  ring : Nat → Option VT
/-- A place's cell. -/
def SlotAt (w : World) (S : Nat → Prop) (c : Value) : Option VT → Prop
  | none => c = .pointer none
  | some t => ∃ q a0 a1 a2 a3 a4, c = .pointer (some ⟨q, 0, none⟩) ∧ Box w q a0 a1 a2 a3 a4 ∧ S q ∧ LV w S t (.agg #[a0, a1, a2, a3, a4])
theorem SlotAt.keep {w w' : World} {S : Nat → Prop} {c : Value} {o : Option VT} (h : SlotAt w S c o) (hk : ∀ b, S b → w'.heap[b]? = w.heap[b]?) : SlotAt w' S c o := by
  cases o with
  | none => exact h
  | some t =>
    obtain ⟨q, a0, a1, a2, a3, a4, h1, h2, h3, h4⟩ := h
    exact ⟨q, a0, a1, a2, a3, a4, h1, (hk q h3).trans h2, h3, h4.keep hk⟩
theorem SlotAt.imp {w : World} {S S' : Nat → Prop} {c : Value} {o : Option VT} (h : SlotAt w S c o) (hS : ∀ b, S b → S' b) : SlotAt w S' c o := by
  cases o with
  | none => exact h
  | some t =>
    obtain ⟨q, a0, a1, a2, a3, a4, h1, h2, h3, h4⟩ := h
    exact ⟨q, a0, a1, a2, a3, a4, h1, h2, hS q h3, h4.imp hS⟩
/-- The cells of images. -/
def imCells (m : ImT) (C : List Value) : Array Value := (.int .i64 m.keep :: .int .i64 m.base :: .int .i64 m.top :: C).toArray
/-- Images lie in block g, their documents in blocks of S. -/
def ImAt (w : World) (S : Nat → Prop) (g : Nat) (m : ImT) : Prop :=
  ∃ C : List Value, w.heap[g]? = some (.cells (imCells m C) 66 (0, 0)) ∧ C.length = 64 ∧ ∀ j (h : j < C.length), SlotAt w S C[j] (m.ring j)
theorem ImAt.lt {w : World} {S : Nat → Prop} {g : Nat} {m : ImT} (h : ImAt w S g m) : g < w.heap.size := by
  obtain ⟨C, h1, -⟩ := h
  exact (Array.getElem?_eq_some_iff.1 h1).1
theorem ImAt.keep {w w' : World} {S : Nat → Prop} {g : Nat} {m : ImT} (h : ImAt w S g m) (hg : w'.heap[g]? = w.heap[g]?) (hk : ∀ b, S b → w'.heap[b]? = w.heap[b]?) : ImAt w' S g m := by
  obtain ⟨C, h1, h2, h3⟩ := h
  exact ⟨C, hg.trans h1, h2, fun j hj => (h3 j hj).keep hk⟩
theorem ImAt.imp {w : World} {S S' : Nat → Prop} {g : Nat} {m : ImT} (h : ImAt w S g m) (hS : ∀ b, S b → S' b) : ImAt w S' g m := by
  obtain ⟨C, h1, h2, h3⟩ := h
  exact ⟨C, h1, h2, fun j hj => (h3 j hj).imp hS⟩
theorem ImAt.below {w w' : World} {S : Nat → Prop} {g : Nat} {m : ImT} (h : ImAt w S g m) (hS : ∀ b, S b → b < w.heap.size) (hb : Below w.heap.size w w') : ImAt w' S g m :=
  h.keep (hb.block g h.lt) fun b k => hb.block b (hS b k)
theorem ImAt.c0 {w : World} {S : Nat → Prop} {g : Nat} {m : ImT} (h : ImAt w S g m) : w.cell? ⟨g, 0, none⟩ = some (.int .i64 m.keep) := by
  obtain ⟨C, h1, -⟩ := h
  exact Go.Joins.cell_of_block h1 0
theorem ImAt.c1 {w : World} {S : Nat → Prop} {g : Nat} {m : ImT} (h : ImAt w S g m) : w.cell? ⟨g, 1, none⟩ = some (.int .i64 m.base) := by
  obtain ⟨C, h1, -⟩ := h
  exact Go.Joins.cell_of_block h1 1
theorem ImAt.c2 {w : World} {S : Nat → Prop} {g : Nat} {m : ImT} (h : ImAt w S g m) : w.cell? ⟨g, 2, none⟩ = some (.int .i64 m.top) := by
  obtain ⟨C, h1, -⟩ := h
  exact Go.Joins.cell_of_block h1 2
theorem ImAt.slot {w : World} {S : Nat → Prop} {g : Nat} {m : ImT} (h : ImAt w S g m) (j : Nat) (hj : j < 64) : ∃ c, w.cell? ⟨g, 3 + j, none⟩ = some c ∧ SlotAt w S c (m.ring j) := by
  obtain ⟨C, h1, h2, h3⟩ := h
  refine ⟨C[j]'(by omega), ?_, h3 j (by omega)⟩
  have := Go.Joins.cell_of_block h1 (3 + j)
  rw [this]
  show (imCells m C)[3 + j]? = _
  unfold imCells
  rw [List.getElem?_toArray, show 3 + j = j + 1 + 1 + 1 by omega, List.getElem?_cons_succ, List.getElem?_cons_succ, List.getElem?_cons_succ, List.getElem?_eq_getElem (by omega)]
theorem ImAt.free {w : World} {S : Nat → Prop} {g : Nat} {m : ImT} (h : ImAt w S g m) (i : Nat) : w.frozen? ⟨g, i, none⟩ = false := by
  obtain ⟨C, h1, -⟩ := h
  exact Go.Joins.unfrozen_of_block h1 i
/-- What may be: a keep, a base and a top within their bounds. -/
structure ImT.Fine (m : ImT) : Prop where
  k0 : 0 ≤ m.keep
  k1 : m.keep ≤ 64
  b0 : 0 ≤ m.base
  b1 : m.base ≤ m.top
  t1 : m.top ≤ 4611686018427387904
section
variable {w : World} {S : Nat → Prop} {g : Nat} {m : ImT}
theorem itop_any (h : ImAt w S g m) : Calls Try.prog 29 #[.pointer (some ⟨g, 0, none⟩)] w fun e w' => e = .returned (.int .i64 m.top) ∧ w' = w := by
  have y2 := h.c2
  clear h
  go_enter Try.func29, Try.ntmps29
  go_wp2_with fail
  go_ret
  exact ⟨rfl, rfl⟩
theorem itop_nil (w : World) : Calls Try.prog 29 #[.pointer none] w fun e w' => e = .returned (.int .i64 0) ∧ w' = w := by
  go_enter Try.func29, Try.ntmps29
  go_wp2_with fail
  go_ret
  exact ⟨rfl, rfl⟩
theorem iplace_any (h : ImAt w S g m) (k i : Nat) (hk : m.keep = (k : Int)) (h0 : 0 < k) (h1 : k ≤ 64) (hi : (i : Int) ≤ 9223372036854775807) : Calls Try.prog 33 #[.pointer (some ⟨g, 0, none⟩), .int .i64 (i : Int)] w fun e w' => e = .returned (.int .i64 ((i % k : Nat) : Int)) ∧ w' = w := by
  have y0 := h.c0
  rw [hk] at y0
  clear h hk
  have hz : ((k : Int) == 0) = false := beq_false_of_ne (by omega)
  have hm : Int.tmod (i : Int) (k : Int) = ((i % k : Nat) : Int) := by rw [Int.tmod_eq_emod_of_nonneg (by omega)]; rfl
  have hw : wrap64 ((i % k : Nat) : Int) = ((i % k : Nat) : Int) := by have := Nat.mod_lt i h0; unfold wrap64; omega
  go_enter Try.func33, Try.ntmps33
  go_wp2_with fail
  go_ret
  exact ⟨rfl, rfl⟩
theorem ifirst_any (h : ImAt w S g m) (hf : m.Fine) : Calls Try.prog 35 #[.pointer (some ⟨g, 0, none⟩)] w fun e w' => e = .returned (.int .i64 (max m.base (m.top - m.keep) + 1)) ∧ Below w.heap.size w w' := by
  have y0 := h.c0
  have y1 := h.c1
  have y2 := h.c2
  have k0 := hf.k0
  have k1 := hf.k1
  have b0 := hf.b0
  have b1 := hf.b1
  have t1 := hf.t1
  clear h hf
  obtain ⟨a, ha⟩ : ∃ a, a = m.keep := ⟨_, rfl⟩
  obtain ⟨b, hb⟩ : ∃ a, a = m.base := ⟨_, rfl⟩
  obtain ⟨c, hc⟩ : ∃ a, a = m.top := ⟨_, rfl⟩
  rw [← ha] at y0 k0 k1 ⊢
  rw [← hb] at y1 b0 b1 ⊢
  rw [← hc] at y2 b1 t1 ⊢
  clear ha hb hc
  go_enter Try.func35, Try.ntmps35
  go_wp2_with go_region
  all_goals go_ret
  all_goals refine ⟨?_, (Below.refl _ _).drew⟩
  all_goals show Ending.returned (.int .i64 _) = Ending.returned (.int .i64 _)
  all_goals refine congrArg (fun x => Ending.returned (.int .i64 x)) ?_
  all_goals omega
end
end Go.Proofs.Ytdggeokpnaopiaa

/- Images: what the ring keeps; a note. -/
namespace Go.Proofs.Ytdggeokpnaopiaa
set_option linter.unusedVariables false
set_option linter.unusedSimpArgs false
open Go.RowKit
set_option maxRecDepth 100000
section
variable {w : World} {S : Nat → Prop} {t : VT} {v : Value}
theorem ikept_none (hS : ∀ b, S b → b < w.heap.size) (h : LV w S t v) : Calls Try.prog 32 #[v, .bool false] w fun e w' => e = .returned (.pointer none) ∧ Below w.heap.size w w' := by
  obtain ⟨A0, c0, A0', c0', rfl, -⟩ := h.shape
  have hb0 := below_box (w := w) (.cells #[.int .i64 t.kind, .int .i64 t.num, .string t.text, .slice A0 t.items.length c0, .slice A0' t.names.length c0'] 36)
  clear h hS
  have HB := Lib.hid hb0
  clear hb0
  go_enter Try.func32, Try.ntmps32
  go_wp2_with fail
  go_ret
  exact ⟨rfl, HB.out⟩
set_option maxHeartbeats 4000000 in
theorem ikept_some (hS : ∀ b, S b → b < w.heap.size) (h : LV w S t v) : Calls Try.prog 32 #[v, .bool true] w fun e w' => ∃ c, e = .returned c ∧ SlotAt w' (New w.heap.size w') c (some t) ∧ Below w.heap.size w w' := by
  obtain ⟨A0, c0, A0', c0', rfl, -, -, -, v1, hb0⟩ := one_var hS h
  have HC := Lib.hid (clone_any S t _ _ v1.s v1.v)
  have q0 := v1.x.c0
  have q1 := v1.x.c1
  have q2 := v1.x.c2
  have q3 := v1.x.c3
  have q4 := v1.x.c4
  have HB0 := Lib.hid hb0
  clear h hS hb0 v1
  go_enter Try.func32, Try.ntmps32
  go_wp2_with fail
  refine HC.out.mono ?_
  rintro e w1 ⟨v', rfl, hv, hb⟩
  obtain ⟨A1, c1, A1', c1', rfl, -⟩ := hv.shape
  have HV := Lib.hid (hv.imp (S' := fun b => w.heap.size ≤ b ∧ b < w1.heap.size) fun b hb => ⟨by have := hb.1; simp at this; omega, hb.2⟩)
  have HB1 := Lib.hid (HB0.out.trans (hb.mono HB0.out.size))
  clear hv hb HB0 HC q0 q1 q2 q3 q4
  go_wp2_with fail
  go_ret
  have hb2 : Below w.heap.size w (w1.alloc (.cells #[.int .i64 t.kind, .int .i64 t.num, .string t.text, .slice A1 t.items.length c1, .slice A1' t.names.length c1'] 36)) := HB1.out.alloc HB1.out.size _
  refine ⟨_, rfl, ⟨w1.heap.size, _, _, _, _, _, rfl, Box.new _ _ _ _ _, ⟨HB1.out.size, by simp⟩, ?_⟩, hb2⟩
  exact (HV.out.keep fun b hb => Below.heap_alloc _ _ b hb.2).imp fun b hb => ⟨hb.1, by simp; omega⟩
theorem ikept_any (b : Bool) (hS : ∀ b, S b → b < w.heap.size) (h : LV w S t v) : Calls Try.prog 32 #[v, .bool b] w fun e w' => ∃ c, e = .returned c ∧ SlotAt w' (New w.heap.size w') c (if b = true then some t else none) ∧ Below w.heap.size w w' := by
  cases b
  · exact (ikept_none hS h).mono fun e w' ⟨h1, h2⟩ => ⟨_, h1, rfl, h2⟩
  · exact ikept_some hS h
end
end Go.Proofs.Ytdggeokpnaopiaa

/- Images: a note. -/
namespace Go.Proofs.Ytdggeokpnaopiaa
set_option linter.unusedVariables false
set_option linter.unusedSimpArgs false
open Go.RowKit
set_option maxRecDepth 100000
def ImT.put (m : ImT) (j : Nat) (o : Option VT) : ImT := { m with ring := fun i => if i = j then o else m.ring i }
/-- One more is noted. -/
def ImT.note (m : ImT) (o : Option VT) : ImT :=
  if m.keep = 0 then { m with top := m.top + 1 } else { m with top := m.top + 1, ring := fun i => if i = (m.top + 1).toNat % m.keep.toNat then o else m.ring i }
theorem ImAt.setTop {w : World} {S : Nat → Prop} {g : Nat} {m : ImT} (h : ImAt w S g m) (hS : ¬ S g) (n : Int) : ImAt (w.setCell ⟨g, 2, none⟩ (.int .i64 n)) S g { m with top := n } := by
  obtain ⟨C, h1, h2, h3⟩ := h
  refine ⟨C, ?_, h2, fun j hj => (h3 j hj).keep fun b hb => heap_setCell_other _ ⟨g, 2, none⟩ b _ (fun e => hS (by cases e; exact hb))⟩
  exact Go.Joins.block_setCell (i := 2) h1 _
theorem ImAt.setSlot {w : World} {S S' : Nat → Prop} {g : Nat} {m : ImT} {c : Value} {o : Option VT} (h : ImAt w S g m) (hS : ¬ S g) (hS' : ¬ S' g) (hc : SlotAt w S' c o) (j : Nat) (hj : j < 64) :
    ImAt (w.setCell ⟨g, 3 + j, none⟩ c) (fun b => S b ∨ S' b) g (m.put j o) := by
  obtain ⟨C, h1, h2, h3⟩ := h
  refine ⟨C.set j c, ?_, by simpa using h2, fun i hi => ?_⟩
  · have := Go.Joins.block_setCell (i := 3 + j) h1 c
    rw [this]
    show some (Obj.cells ((imCells m C).setIfInBounds (3 + j) c) _ _) = some (Obj.cells (imCells m (C.set j c)) _ _)
    unfold imCells
    rw [List.setIfInBounds_toArray, show 3 + j = j + 1 + 1 + 1 by omega, List.set_cons_succ, List.set_cons_succ, List.set_cons_succ]
  · have hi' : i < C.length := by simpa using hi
    rw [List.getElem_set]
    unfold ImT.put
    by_cases e : i = j
    · subst e
      rw [if_pos rfl]
      simp only [if_true]
      exact (hc.keep fun b hb => heap_setCell_other _ ⟨g, _, none⟩ b _ (fun e => hS' (by cases e; exact hb))).imp fun b hb => .inr hb
    · rw [if_neg (fun h => e h.symm)]
      simp only [if_neg e]
      exact ((h3 i hi').keep fun b hb => heap_setCell_other _ ⟨g, _, none⟩ b _ (fun e => hS (by cases e; exact hb))).imp fun b hb => .inl hb
/-- All that lies there stays. -/
def KeepA (w w' : World) : Prop := ∀ (k : Nat) (o : Obj), w.heap[k]? = some o → w'.heap[k]? = some o
theorem KeepA.refl (w : World) : KeepA w w := fun _ _ h => h
theorem KeepA.trans (a b c : World) (h : KeepA a b) (k : KeepA b c) : KeepA a c := fun i o e => k i o (h i o e)
theorem KeepA.of {w w' : World} (h : Below w.heap.size w w') : KeepA w w' := fun k o e => (h.block k (Array.getElem?_eq_some_iff.1 e).1).trans e
instance (w : World) : Inhabited (LaterR KeepA w) := ⟨⟨w, KeepA.refl w⟩⟩
theorem cell_ka {w : World} {g i : Nat} {v : Value} {o : Obj} (ho : w.heap[g]? = some o) (hc : w.cell? ⟨g, i, none⟩ = some v) : ∀ p : LaterR KeepA w, p.u.cell? ⟨g, i, none⟩ = some v := fun p => by
  rw [World.cell?_of_block (a := ⟨g, i, none⟩) ((p.h g o ho).trans ho.symm)]; exact hc
set_option maxHeartbeats 4000000 in
theorem inote_refused {w : World} {S' : Nat → Prop} {g : Nat} {t : VT} {v : Value} (hS : ∀ b, S' b → b < w.heap.size) (hv : LV w S' t v) (hd : depthT t ≤ 4611686018427387903) (hc : checkT t ≠ 0) :
    Calls Try.prog 13 #[.pointer (some ⟨g, 0, none⟩), v, .bool true] w fun e w' => e = .returned (.int .i64 20) ∧ Below w.heap.size w w' := by
  obtain ⟨A0, c0, A0', c0', rfl, -, -, -, v1, hb0⟩ := one_var hS hv
  have HC := Lib.hid (check_any S' t _ _ v1.s v1.v hd)
  have q0 := v1.x.c0
  have q1 := v1.x.c1
  have q2 := v1.x.c2
  have q3 := v1.x.c3
  have q4 := v1.x.c4
  have HB0 := Lib.hid hb0
  obtain ⟨x, hx⟩ : ∃ x, x = checkT t := ⟨_, rfl⟩
  rw [← hx] at HC hc
  have h2 : (x != 0) = true := by simp [hc]
  clear hv hS hb0 v1 hd hx
  go_enter Try.func13, Try.ntmps13
  go_wp2_with fail
  refine HC.out.mono ?_
  rintro e w1 ⟨rfl, hb⟩
  have HB1 := Lib.hid (HB0.out.trans (hb.mono HB0.out.size))
  clear hb HB0 HC q0 q1 q2 q3 q4
  go_wp2_with fail
  go_ret
  exact ⟨rfl, HB1.out⟩
theorem inote_nil {w : World} {S' : Nat → Prop} {t : VT} {v : Value} (b : Bool) (hS : ∀ b, S' b → b < w.heap.size) (hv : LV w S' t v) :
    Calls Try.prog 13 #[.pointer none, v, .bool b] w fun e w' => e = .returned (.int .i64 6) ∧ Below w.heap.size w w' := by
  obtain ⟨A0, c0, A0', c0', rfl, -, -, -, v1, hb0⟩ := one_var hS hv
  have HB0 := Lib.hid hb0
  clear hv hS hb0 v1
  go_enter Try.func13, Try.ntmps13
  go_wp2_with fail
  go_ret
  exact ⟨rfl, HB0.out⟩
end Go.Proofs.Ytdggeokpnaopiaa
