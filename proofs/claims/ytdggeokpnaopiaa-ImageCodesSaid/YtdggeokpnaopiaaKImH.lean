/- Images: what is read of a source. -/
import Derived.Test.YtdggeokpnaopiaaKImE
import Derived.Test.YtdggeokpnaopiaaKCodX
import Derived.Test.YtdggeokpnaopiaaKImG
import Derived.Deep.LoopGhost
namespace Go.Proofs.Ytdggeokpnaopiaa
set_option linter.unusedVariables false
set_option linter.unusedSimpArgs false
open Go.RowKit
set_option maxRecDepth 100000
/-- What comes next: a document, whether there is one, and what the source is then. -/
def rdKept (st : Option (List UInt8)) : VT × Bool × Option (List UInt8) :=
  if (rdByte st).1 = 0 then (zeroT, false, (rdByte st).2)
  else if (rdByte st).1 = 1 then ((readO (rdByte st).2).1, true, (readO (rdByte st).2).2)
  else (zeroT, false, none)
def KeptR (g : Nat) (st : Option (List UInt8)) (w : World) (e : Ending) (w' : World) : Prop :=
  ∃ v, e = .returned (.tuple #[v, .bool (rdKept st).2.1]) ∧ SrcL w' g (rdKept st).2.2 ∧ Only w w' g ∧ LV w' (NewB w.heap.size w') (rdKept st).1 v
theorem kept_end {w w4 : World} {g : Nat} {st st' : Option (List UInt8)} {S : Nat → Prop} {t : VT} {b : Bool} {c0 c1 c2 c3 c4 : Value} (hs : SrcL w4 g st') (ho : Only w w4 g) (hz : w.heap.size + 1 ≤ w4.heap.size) (hg : g < w.heap.size)
    (hv : LV w4 S t (.agg #[c0, c1, c2, c3, c4])) (hS : ∀ b, S b → w.heap.size + 1 ≤ b ∧ b < w4.heap.size) (hr : rdKept st = (t, b, st')) :
    KeptR g st w (.returned (.tuple #[.agg #[c0, c1, c2, c3, c4], .bool b])) (five w4 w.heap.size 0 c0 c1 c2 c3 c4) := by
  have hr5 := five_rest w4 w.heap.size 0 c0 c1 c2 c3 c4
  have hsz := five_size w4 w.heap.size 0 c0 c1 c2 c3 c4
  refine ⟨_, by rw [hr], ?_, ⟨hr5.1.trans ho.os, hr5.2.1.trans ho.tape, hr5.2.2.trans ho.output, by rw [hsz]; omega, fun b hb hbg => ?_⟩, ?_⟩
  · rw [hr]; exact hs.of (five_other _ _ _ _ _ _ _ _ g (by omega))
  · rw [five_other _ _ _ _ _ _ _ _ b (by omega)]; exact ho.block b hb hbg
  · rw [hr]
    refine (hv.keep (w' := _) fun b hb => five_other _ _ _ _ _ _ _ _ b (by have := hS b hb; omega)).imp fun b hb => ?_
    have := hS b hb
    exact ⟨by omega, by rw [hsz]; omega⟩
set_option maxHeartbeats 8000000 in
theorem ireadkept_any (g : Nat) (st : Option (List UInt8)) (w : World) (hs : SrcL w g st) : Calls Try.prog 39 #[.pointer (some ⟨g, 0, none⟩)] w (KeptR g st w) := by
  have hgl := hs.lt
  have ho1 : Only w (w.alloc (.cells #[.int .i64 0, .int .i64 0, .string ⟨#[]⟩, .slice none 0 0, .slice none 0 0] 36)) g := ⟨rfl, rfl, rfl, by simp, fun b hb _ => Below.heap_alloc w _ b hb⟩
  have hs1 := hs.alloc (.cells #[.int .i64 0, .int .i64 0, .string ⟨#[]⟩, .slice none 0 0, .slice none 0 0] 36)
  have hb1 : Box (w.alloc (.cells #[.int .i64 0, .int .i64 0, .string ⟨#[]⟩, .slice none 0 0, .slice none 0 0] 36)) w.heap.size _ _ _ _ _ := Box.new _ _ _ _ _
  have HK : Hid (rdKept st = if (rdByte st).1 = 0 then (zeroT, false, (rdByte st).2) else if (rdByte st).1 = 1 then ((readO (rdByte st).2).1, true, (readO (rdByte st).2).2) else (zeroT, false, none)) := Lib.hid rfl
  have HS1 := Lib.hid hs1
  have HO1 := Lib.hid ho1
  have HB1 := Lib.hid hb1
  clear hs hs1 ho1 hb1
  go_enter Try.func39, Try.ntmps39
  go_wp2_with fail
  refine (sbyte_any g st _ HS1.out).mono ?_
  rintro e w2 ⟨rfl, hs2, ho2⟩
  have hb2 := box_only HB1.out ho2 (by omega)
  have ho3 := HO1.out.trans ho2
  have hz2 : w.heap.size + 1 ≤ w2.heap.size := by have := ho2.size; simp at this; omega
  have HS2 := Lib.hid hs2
  have HO2 := Lib.hid ho3
  have HB2 := Lib.hid hb2
  obtain ⟨n, hn⟩ : ∃ n, n = (rdByte st).1 := ⟨_, rfl⟩
  obtain ⟨s2, hs2'⟩ : ∃ s, s = (rdByte st).2 := ⟨_, rfl⟩
  rw [← hn]
  rw [← hn, ← hs2'] at HK
  rw [← hs2'] at HS2
  clear hs2 ho2 hb2 ho3 HS1 HO1 HB1 hn hs2'
  by_cases h0 : n = 0
  · subst h0
    have rf : ∀ i, (w2).frozen? ⟨w.heap.size, i, none⟩ = false := fun i => HB2.out.free i
    have r0 := HB2.out.c0
    have r1 := HB2.out.c1
    have r2 := HB2.out.c2
    have r3 := HB2.out.c3
    have r4 := HB2.out.c4
    go_wp2_with fail
    refine bodyPost_ret (results_cell_two rfl _ _ w.heap.size 36 _ (0, 0) rfl (five_box HB2.out) (by kernel_rfl)) rfl ?_
    exact kept_end (t := zeroT) HS2.out HO2.out hz2 hgl (zero_lv _ (fun _ => False)) (fun _ h => h.elim) (by rw [HK.out]; rfl)
  by_cases h1 : n = 1
  · subst h1
    go_wp2_with fail
    refine (cread_any g s2 w2 HS2.out).mono ?_
    rintro e w3 ⟨v, rfl, hs3, ho3, hv3⟩
    obtain ⟨T3, d3, T4, d4, rfl, -⟩ := hv3.shape
    have hb3 := box_only HB2.out ho3 (by omega)
    have HS3 := Lib.hid hs3
    have HO3 := Lib.hid (HO2.out.trans ho3)
    have HB3 := Lib.hid hb3
    have HV3 := Lib.hid hv3
    have hz3 : w.heap.size + 1 ≤ w3.heap.size := by have := ho3.size; omega
    clear hs3 ho3 hb3 hv3 HS2 HO2 HB2
    have rf : ∀ i, (w3).frozen? ⟨w.heap.size, i, none⟩ = false := fun i => HB3.out.free i
    have r0 := HB3.out.c0
    have r1 := HB3.out.c1
    have r2 := HB3.out.c2
    have r3 := HB3.out.c3
    have r4 := HB3.out.c4
    go_wp2_with fail
    refine bodyPost_ret (results_cell_two rfl _ _ w.heap.size 36 _ (0, 0) rfl (five_box HB3.out) (by kernel_rfl)) rfl ?_
    exact kept_end HS3.out HO3.out hz3 hgl HV3.out (fun b hb => ⟨by have := hb.1; omega, hb.2⟩) (by rw [HK.out]; rfl)
  · go_wp2_with fail
    refine (cspoil_st g _ _ HS2.out).mono ?_
    rintro e w3 ⟨rfl, hs3, ho3⟩
    have hb3 := box_only HB2.out ho3 (by omega)
    have HS3 := Lib.hid hs3
    have HO3 := Lib.hid (HO2.out.trans ho3)
    have HB3 := Lib.hid hb3
    have hz3 : w.heap.size + 1 ≤ w3.heap.size := by have := ho3.size; omega
    clear hs3 ho3 hb3 HS2 HO2 HB2
    have rf : ∀ i, (w3).frozen? ⟨w.heap.size, i, none⟩ = false := fun i => HB3.out.free i
    have r0 := HB3.out.c0
    have r1 := HB3.out.c1
    have r2 := HB3.out.c2
    have r3 := HB3.out.c3
    have r4 := HB3.out.c4
    go_wp2_with fail
    refine bodyPost_ret (results_cell_two rfl _ _ w.heap.size 36 _ (0, 0) rfl (five_box HB3.out) (by kernel_rfl)) rfl ?_
    exact kept_end (t := zeroT) HS3.out HO3.out hz3 hgl (zero_lv _ (fun _ => False)) (fun _ h => h.elim) (by rw [HK.out, if_neg h0, if_neg h1])
end Go.Proofs.Ytdggeokpnaopiaa

/- Images: read whole. -/
namespace Go.Proofs.Ytdggeokpnaopiaa
set_option linter.unusedVariables false
set_option linter.unusedSimpArgs false
open Go.RowKit
set_option maxRecDepth 100000
/-- What is read is noted, n more, as long as the source is good. -/
def keptO (st : Option (List UInt8)) : Option VT := if (rdKept st).2.1 = true then some (rdKept st).1 else none
def rdRing : Nat → ImT → Option (List UInt8) → ImT × Option (List UInt8)
  | 0, m, st => (m, st)
  | _ + 1, m, none => (m, none)
  | n + 1, m, some l => rdRing n (m.note (keptO (some l))) (rdKept (some l)).2.2
theorem rdRing_none : ∀ (n : Nat) (m : ImT), (rdRing n m none).2 = none
  | 0, _ => rfl
  | _ + 1, _ => rfl
def startI (k b t : Nat) : ImT := ⟨k, b, max (b : Int) ((t : Int) - k), fun _ => none⟩
def finI : ImT × Option (List UInt8) → Option ImT × Option (List UInt8)
  | (_, none) => (none, none)
  | (m, some l) => (some m, some l)
theorem finI_none : ∀ {r : ImT × Option (List UInt8)}, r.2 = none → finI r = (none, none)
  | (_, none), _ => rfl
/-- The images that come next. -/
def rdImg (st : Option (List UInt8)) : Option ImT × Option (List UInt8) :=
  finI (rdRing ((rdCount 1099511627776 (rdCount 1099511627776 (rdCount 64 st).2).2).1 - max (rdCount 1099511627776 (rdCount 64 st).2).1 ((rdCount 1099511627776 (rdCount 1099511627776 (rdCount 64 st).2).2).1 - (rdCount 64 st).1))
      (startI (rdCount 64 st).1 (rdCount 1099511627776 (rdCount 64 st).2).1 (rdCount 1099511627776 (rdCount 1099511627776 (rdCount 64 st).2).2).1)
      (if (rdCount 1099511627776 (rdCount 1099511627776 (rdCount 64 st).2).2).1 < (rdCount 1099511627776 (rdCount 64 st).2).1 then none else (rdCount 1099511627776 (rdCount 1099511627776 (rdCount 64 st).2).2).2))
theorem rdCount_leI {n : Int} {st : Option (List UInt8)} (h : 0 ≤ n) (h2 : n ≤ 4611686018427387904) : ((rdCount n st).1 : Int) ≤ n := by
  unfold rdCount
  rw [if_neg (by omega)]
  have h1 := rdN_le (mc n) st
  unfold mc at h1 ⊢
  rw [if_pos h2] at h1 ⊢
  omega
/-- A document that was read is whole, or the source is bad. -/
theorem readO_whole {st : Option (List UInt8)} (hl : ∀ l, st = some l → l.length ≤ 9223372036854775807) : (readO st).2 = none ∧ (readO st).1 = zeroT ∨ checkT (readO st).1 = 0 ∧ sizeT (readO st).1 ≤ 9223372036854775807 := by
  rcases st with _ | l
  · exact .inl ⟨rfl, rfl⟩
  · rw [readO_some]
    cases hr : readS l with
    | none => exact .inl ⟨rfl, rfl⟩
    | some p =>
      obtain ⟨t, r⟩ := p
      obtain ⟨h1, h2, h3, h4, h5⟩ := readS_some hr (hl l rfl)
      have hz := size_of_rd h4 h1.may
      have h6 := h1.size
      have hz' : sizeT t ≤ 9223372036854775807 := by omega
      exact .inr ⟨(check_zero hz').2 ⟨h1.may, h1.depth, h1.size⟩, hz'⟩
theorem ImAt.setKeep {w : World} {S : Nat → Prop} {g : Nat} {m : ImT} (h : ImAt w S g m) (hS : ¬ S g) (n : Int) : ImAt (w.setCell ⟨g, 0, none⟩ (.int .i64 n)) S g { m with keep := n } := by
  obtain ⟨C, h1, h2, h3⟩ := h
  refine ⟨C, ?_, h2, fun j hj => (h3 j hj).keep fun b hb => heap_setCell_other _ ⟨g, 0, none⟩ b _ (fun e => hS (by cases e; exact hb))⟩
  exact Go.Joins.block_setCell (i := 0) h1 _
theorem ImAt.setBase {w : World} {S : Nat → Prop} {g : Nat} {m : ImT} (h : ImAt w S g m) (hS : ¬ S g) (n : Int) : ImAt (w.setCell ⟨g, 1, none⟩ (.int .i64 n)) S g { m with base := n } := by
  obtain ⟨C, h1, h2, h3⟩ := h
  refine ⟨C, ?_, h2, fun j hj => (h3 j hj).keep fun b hb => heap_setCell_other _ ⟨g, 1, none⟩ b _ (fun e => hS (by cases e; exact hb))⟩
  exact Go.Joins.block_setCell (i := 1) h1 _
def noRing : Nat → Option VT := fun _ => none
theorem zero_im (w : World) : ImAt (w.alloc (.cells Try.zeroCells66 66)) (fun _ => False) w.heap.size ⟨0, 0, 0, noRing⟩ := by
  refine ⟨List.replicate 64 (.pointer none), ?_, by simp, fun j hj => ?_⟩
  · rw [heap_alloc_new]; rfl
  · rw [List.getElem_replicate]; rfl
theorem ImAt.none_keep {w w' : World} {g : Nat} {m : ImT} (h : ImAt w (fun _ => False) g m) (hg : w'.heap[g]? = w.heap[g]?) : ImAt w' (fun _ => False) g m := h.keep hg fun _ h => h.elim
theorem Only.near {a b c : World} {g p : Nat} (h : Only a b g) (k : Only b c p) (hp : a.heap.size ≤ p) : Only a c g :=
  ⟨k.os.trans h.os, k.tape.trans h.tape, k.output.trans h.output, Nat.le_trans h.size k.size, fun i hi hg => (k.block i (Nat.lt_of_lt_of_le hi h.size) (by rintro ⟨⟩; omega)).trans (h.block i hi hg)⟩
def ReadIR (g : Nat) (st : Option (List UInt8)) (w : World) (e : Ending) (w' : World) : Prop :=
  SrcL w' g (rdImg st).2 ∧ Only w w' g ∧ match (rdImg st).1 with
    | none => e = .returned (.pointer none)
    | some m => e = .returned (.pointer (some ⟨w.heap.size, 0, none⟩)) ∧ m.Fine ∧ m.Good ∧ ImAt w' (fun b => w.heap.size < b ∧ b < w'.heap.size) w.heap.size m
theorem note_fine {m : ImT} (h : m.Fine) (o : Option VT) (ht : m.top < 4611686018427387904) : (m.note o).Fine := by
  have h0 := h.k0; have h1 := h.k1; have h2 := h.b0; have h3 := h.b1
  unfold ImT.note
  split
  · exact ⟨h0, h1, h2, by show m.base ≤ m.top + 1; omega, by show m.top + 1 ≤ _; omega⟩
  · exact ⟨h0, h1, h2, by show m.base ≤ m.top + 1; omega, by show m.top + 1 ≤ _; omega⟩
theorem note_top (m : ImT) (o : Option VT) : (m.note o).top = m.top + 1 := by unfold ImT.note; split <;> rfl
theorem note_good {m : ImT} (h : m.Good) (o : Option VT) (ho : ∀ t, o = some t → checkT t = 0 ∧ sizeT t ≤ 9223372036854775807) : (m.note o).Good := by
  intro j t
  unfold ImT.note
  split
  · exact h j t
  · intro hj
    simp only at hj
    split at hj
    · exact ho t hj
    · exact h j t hj
theorem start_good (k b t : Nat) : (startI k b t).Good := fun j t h => by cases h
theorem zero_check : checkT zeroT ≠ 0 := by decide
theorem rdByte_len {l r : List UInt8} (h : (rdByte (some l)).2 = some r) : r.length ≤ l.length := by
  cases l with
  | nil => cases h
  | cons b x => have h : some x = some r := h; injection h with h; subst h; simp
theorem kept_fact {l : List UInt8} (hl : l.length ≤ 9223372036854775807) : ((rdKept (some l)).1 = zeroT ∧ ((rdKept (some l)).2.1 = true → (rdKept (some l)).2.2 = none)) ∨ ((rdKept (some l)).2.1 = true ∧ checkT (rdKept (some l)).1 = 0 ∧ sizeT (rdKept (some l)).1 ≤ 9223372036854775807) := by
  unfold rdKept
  split
  · exact .inl ⟨rfl, fun h => by cases h⟩
  split
  · rcases readO_whole (st := (rdByte (some l)).2) (fun r hr => Nat.le_trans (rdByte_len hr) hl) with h | h
    · exact .inl ⟨h.2, fun _ => h.1⟩
    · exact .inr ⟨rfl, h⟩
  · exact .inl ⟨rfl, fun h => by cases h⟩
def RingInv (N k : Nat) (m0 : ImT) (s0 : Option (List UInt8)) (t c : Nat) (m : ImT) (s : Option (List UInt8)) : Prop :=
  m.Fine ∧ m.Good ∧ (m.top < (t : Int) → m.top + c = t ∧ 0 < c) ∧ (¬ m.top < (t : Int) → c = 0) ∧ match s with
    | none => (rdRing N m0 s0).2 = none
    | some l => rdRing N m0 s0 = rdRing c m (some l)
theorem ring_end {N k t c : Nat} {m0 m : ImT} {s0 : Option (List UInt8)} {l : List UInt8} (h : RingInv N k m0 s0 t c m (some l)) (ht : ¬ m.top < (t : Int)) : rdRing N m0 s0 = (m, some l) := by
  obtain ⟨-, -, -, h4, h5⟩ := h
  have h6 := h4 ht
  subst h6
  exact h5
theorem ring_bad {N k t c : Nat} {m0 m : ImT} {s0 : Option (List UInt8)} (h : RingInv N k m0 s0 t c m none) : (rdRing N m0 s0).2 = none := h.2.2.2.2
theorem ring_refused {N k t c : Nat} {m0 m : ImT} {s0 : Option (List UInt8)} {l : List UInt8} (h : RingInv N k m0 s0 t c m (some l)) (ht : m.top < (t : Int)) (hk : (rdKept (some l)).2.2 = none) : RingInv N k m0 s0 t c m none := by
  obtain ⟨h1, h2, h3, h4, h5⟩ := h
  refine ⟨h1, h2, h3, h4, ?_⟩
  have h5' : rdRing N m0 s0 = rdRing c m (some l) := h5
  show (rdRing N m0 s0).2 = none
  rw [h5']
  obtain ⟨c', rfl⟩ : ∃ c', c = c' + 1 := ⟨c - 1, by have := (h3 ht).2; omega⟩
  unfold rdRing
  rw [hk]
  exact rdRing_none _ _
theorem ring_noted {N k t c : Nat} {m0 m : ImT} {s0 : Option (List UInt8)} {l : List UInt8} (h : RingInv N k m0 s0 t c m (some l)) (ht : m.top < (t : Int)) (htl : (t : Int) ≤ 1099511627776)
    (ho : ∀ x, keptO (some l) = some x → checkT x = 0 ∧ sizeT x ≤ 9223372036854775807) : RingInv N k m0 s0 t (c - 1) (m.note (keptO (some l))) (rdKept (some l)).2.2 := by
  obtain ⟨h1, h2, h3, h4, h5⟩ := h
  have h5' : rdRing N m0 s0 = rdRing c m (some l) := h5
  have h6 := (h3 ht).2
  have h7 := (h3 ht).1
  refine ⟨note_fine h1 _ (by omega), note_good h2 _ ho, by rw [note_top]; omega, by rw [note_top]; omega, ?_⟩
  obtain ⟨c', rfl⟩ : ∃ c', c = c' + 1 := ⟨c - 1, by omega⟩
  have e : rdRing (c' + 1) m (some l) = rdRing c' (m.note (keptO (some l))) (rdKept (some l)).2.2 := rfl
  rw [e] at h5'
  generalize (rdKept (some l)).2.2 = s at *
  cases s with
  | none => show (rdRing N m0 s0).2 = none; rw [h5']; exact rdRing_none _ _
  | some r => exact h5'
set_option maxHeartbeats 16000000 in
theorem iread_any (g : Nat) (st : Option (List UInt8)) (w : World) (hs : SrcL w g st) : Calls Try.prog 18 #[.pointer (some ⟨g, 0, none⟩)] w (ReadIR g st w) := by
  have hgl := hs.lt
  have hi1 := zero_im w
  have hs1 := hs.alloc (.cells Try.zeroCells66 66)
  have ho1 : Only w (w.alloc (.cells Try.zeroCells66 66)) g := ⟨rfl, rfl, rfl, by simp, fun b hb _ => Below.heap_alloc w _ b hb⟩
  obtain ⟨k, hk⟩ : ∃ k, k = (rdCount 64 st).1 := ⟨_, rfl⟩
  obtain ⟨st1, hst1⟩ : ∃ s, s = (rdCount 64 st).2 := ⟨_, rfl⟩
  obtain ⟨b, hb⟩ : ∃ k, k = (rdCount 1099511627776 st1).1 := ⟨_, rfl⟩
  obtain ⟨st2, hst2⟩ : ∃ s, s = (rdCount 1099511627776 st1).2 := ⟨_, rfl⟩
  obtain ⟨t, ht⟩ : ∃ k, k = (rdCount 1099511627776 st2).1 := ⟨_, rfl⟩
  obtain ⟨st3, hst3⟩ : ∃ s, s = (rdCount 1099511627776 st2).2 := ⟨_, rfl⟩
  have hkl : (k : Int) ≤ 64 := by rw [hk]; exact rdCount_leI (by omega) (by omega)
  have hbl : (b : Int) ≤ 1099511627776 := by rw [hb]; exact rdCount_leI (by omega) (by omega)
  have htl : (t : Int) ≤ 1099511627776 := by rw [ht]; exact rdCount_leI (by omega) (by omega)
  have HR : Hid (rdImg st = finI (rdRing (t - max b (t - k)) (startI k b t) (if t < b then none else st3))) := Lib.hid (by unfold rdImg; rw [← hst1, ← hst2, ← hst3, ← hk, ← hb, ← ht])
  have HI1 := Lib.hid hi1
  have HS1 := Lib.hid hs1
  have HO1 := Lib.hid ho1
  have HC1 := Lib.hid (scount_any g st 64 _ hs1 (by omega))
  rw [← hk, ← hst1] at HC1
  have HST2 : Hid (∀ W, SrcL W g st1 → Calls Try.prog 37 #[.pointer (some ⟨g, 0, none⟩), .int .i64 1099511627776] W fun e w' => e = .returned (.int .i64 b) ∧ SrcL w' g st2 ∧ Only W w' g) := Lib.hid fun W hW => by
    rw [hb, hst2]; exact scount_any g st1 1099511627776 W hW (by omega)
  have HST3 : Hid (∀ W, SrcL W g st2 → Calls Try.prog 37 #[.pointer (some ⟨g, 0, none⟩), .int .i64 1099511627776] W fun e w' => e = .returned (.int .i64 t) ∧ SrcL w' g st3 ∧ Only W w' g) := Lib.hid fun W hW => by
    rw [ht, hst3]; exact scount_any g st2 1099511627776 W hW (by omega)
  clear hs hi1 hs1 ho1 hk hst1 hb hst2 ht hst3
  go_enter Try.func18, Try.ntmps18
  go_wp2_with fail
  refine HC1.out.mono ?_
  rintro e w2 ⟨rfl, hs2, ho2⟩
  have hi2 := HI1.out.none_keep (ho2.block _ HI1.out.lt (by rintro ⟨⟩; omega))
  have y0 := hi2.c0
  have y1 := hi2.c1
  have y2 := hi2.c2
  have yf := hi2.free
  have hi3 := hi2.setKeep (fun h => h) k
  have hs3 : SrcL (w2.setCell ⟨w.heap.size, 0, none⟩ (.int .i64 (k : Int))) g st1 := hs2.far (by show g ≠ w.heap.size; omega) _
  have ho3 : Only w (w2.setCell ⟨w.heap.size, 0, none⟩ (.int .i64 (k : Int))) g := (HO1.out.trans ho2).setNew (p := ⟨w.heap.size, 0, none⟩) (Nat.le_refl _) _
  obtain ⟨w3, hw3⟩ : ∃ W, W = w2.setCell ⟨w.heap.size, 0, none⟩ (.int .i64 (k : Int)) := ⟨_, rfl⟩
  rw [← hw3] at hi3 hs3 ho3
  have HW3 := Lib.hid hw3
  have HI3 := Lib.hid hi3
  have HO3 := Lib.hid ho3
  have HC2 := Lib.hid (HST2.out w3 hs3)
  clear hs2 ho2 hi2 hi3 hs3 ho3 hw3 HC1 HS1 HI1 HO1 HST2
  go_wp2_with fail
  rw [← HW3.out]
  refine HC2.out.mono ?_
  rintro e w4 ⟨rfl, hs4, ho4⟩
  have hi4 := HI3.out.none_keep (ho4.block _ HI3.out.lt (by rintro ⟨⟩; omega))
  clear y0 y1 y2 yf
  have y0 := hi4.c0
  have y1 := hi4.c1
  have y2 := hi4.c2
  have yf := hi4.free
  have hi5 := hi4.setBase (fun h => h) b
  have hs5 : SrcL (w4.setCell ⟨w.heap.size, 1, none⟩ (.int .i64 (b : Int))) g st2 := hs4.far (by show g ≠ w.heap.size; omega) _
  have ho5 : Only w (w4.setCell ⟨w.heap.size, 1, none⟩ (.int .i64 (b : Int))) g := (HO3.out.trans ho4).setNew (p := ⟨w.heap.size, 1, none⟩) (Nat.le_refl _) _
  obtain ⟨w5, hw5⟩ : ∃ W, W = w4.setCell ⟨w.heap.size, 1, none⟩ (.int .i64 (b : Int)) := ⟨_, rfl⟩
  rw [← hw5] at hi5 hs5 ho5
  have HW5 := Lib.hid hw5
  have HI5 := Lib.hid hi5
  have HO5 := Lib.hid ho5
  have HC3 := Lib.hid (HST3.out w5 hs5)
  clear hs4 ho4 hi4 hi5 hs5 ho5 hw5 HC2 HI3 HO3 HST3 HW3
  go_wp2_with fail
  rw [← HW5.out]
  refine HC3.out.mono ?_
  rintro e w6 ⟨rfl, hs6, ho6⟩
  have hi6 := HI5.out.none_keep (ho6.block _ HI5.out.lt (by rintro ⟨⟩; omega))
  clear y0 y1 y2 yf
  have y0 := hi6.c0
  have y1 := hi6.c1
  have y2 := hi6.c2
  have yf := hi6.free
  have HI6 := Lib.hid hi6
  have HS6 := Lib.hid hs6
  have HO6 := Lib.hid (HO5.out.trans ho6)
  clear hs6 ho6 hi6 HC3 HI5 HO5 HW5
  by_cases htb : t < b
  · go_wp2_with fail
    refine (cspoil_st g st3 w6 HS6.out).mono ?_
    rintro e w7 ⟨rfl, hs7, ho7⟩
    clear y0 y1 y2 yf
    have hi7 := HI6.out.none_keep (ho7.block _ HI6.out.lt (by rintro ⟨⟩; omega))
    have ho8 := HO6.out.trans ho7
    have y0 := hi7.c0
    have y1 := hi7.c1
    have y2 := hi7.c2
    have yf := hi7.free
    have hle : ¬ ((b : Int) < (t : Int) - (k : Int)) := by omega
    have hi8 := hi7.setTop (fun h => h) (b : Int)
    have hs8 : SrcL (w7.setCell ⟨w.heap.size, 2, none⟩ (.int .i64 (b : Int))) g none := hs7.far (by show g ≠ w.heap.size; omega) _
    have ho9 : Only w (w7.setCell ⟨w.heap.size, 2, none⟩ (.int .i64 (b : Int))) g := ho8.setNew (p := ⟨w.heap.size, 2, none⟩) (Nat.le_refl _) _
    have HI9 : Hid (ImAt (w7.setCell ⟨w.heap.size, 2, none⟩ (.int .i64 (b : Int))).drew (fun _ => False) w.heap.size (startI k b t)) := Lib.hid (by
      have e : (startI k b t) = ⟨k, b, b, noRing⟩ := by unfold startI; congr 1; omega
      rw [e]; exact hi8.none_keep rfl)
    have HS9 : Hid (SrcL (w7.setCell ⟨w.heap.size, 2, none⟩ (.int .i64 (b : Int))).drew g none) := Lib.hid (hs8.of rfl)
    have HO9 : Hid (Only w (w7.setCell ⟨w.heap.size, 2, none⟩ (.int .i64 (b : Int))).drew g) := Lib.hid ⟨ho9.os, ho9.tape, ho9.output, ho9.size, ho9.block⟩
    rw [if_pos htb] at HR
    clear hi7 ho8 hi8 hs8 ho9 hs7 ho7 HI6 HS6 HO6
    go_wp2_with go_region
    all_goals first | (exfalso; omega) | skip
    generalize hw9 : (w7.setCell ⟨w.heap.size, 2, none⟩ (.int .i64 (b : Int))).drew = w9 at *
    clear hw9 hle
    obtain ⟨s0, hs0⟩ : ∃ s : Option (List UInt8), s = none := ⟨_, rfl⟩
    rw [← hs0] at HS9 HR
    clear hs0
    obtain ⟨N, hN⟩ : ∃ N, N = t - max b (t - k) := ⟨_, rfl⟩
    obtain ⟨m0, hm0⟩ : ∃ m, m = startI k b t := ⟨_, rfl⟩
    rw [← hN, ← hm0] at HR
    rw [← hm0] at HI9
    have hinv : RingInv N k m0 s0 t N m0 s0 := by
      have e : m0.top = max (b : Int) ((t : Int) - k) := by rw [hm0]; rfl
      refine ⟨by rw [hm0]; exact ⟨by show (0 : Int) ≤ k; omega, hkl, by show (0 : Int) ≤ b; omega, by show (b : Int) ≤ max (b : Int) ((t : Int) - k); omega, by show max (b : Int) ((t : Int) - k) ≤ _; omega⟩, by rw [hm0]; exact start_good k b t, by rw [e, hN]; omega, by rw [e, hN]; omega, ?_⟩
      cases s0 with
      | none => exact rdRing_none _ _
      | some l => rfl
    have HINV := Lib.hid hinv
    have HI10 : Hid (ImAt w9 (fun x => w.heap.size < x ∧ x < w9.heap.size) w.heap.size m0) := Lib.hid (HI9.out.imp fun b h => h.elim)
    have HRR := HR
    clear hN hm0 hinv HI9 HR y0 y1 y2 yf
    go_loopg [] (2 * N + (if s0 = none then 0 else 1)) (fun n wr => ∃ (m : ImT) (s : Option (List UInt8)) (c : Nat), n = 2 * c + (if s = none then 0 else 1) ∧ Hid (ImAt wr (fun x => w.heap.size < x ∧ x < wr.heap.size) w.heap.size m) ∧ Hid (SrcL wr g s) ∧ Hid (Only w wr g) ∧ Hid (RingInv N k m0 s0 t c m s))
    case atStart => exact ⟨m0, s0, N, rfl, HI10, HS9, HO9, HINV⟩
    case round =>
      clear HI10 HS9 HO9 HINV
      obtain ⟨m, s, c, hnn, HI, HS, HO, HV⟩ := hrel
      have y2 := HI.out.c2
      by_cases ht : m.top < (t : Int)
      · cases s with
        | none =>
          go_wp2_with fail
          refine (sbad_any g none _ HS.out).mono ?_
          rintro e w1 ⟨rfl, rfl⟩
          go_wp2_with fail
          refine (sbad_any g none _ HS.out).mono ?_
          rintro e w1 ⟨rfl, rfl⟩
          go_wp2_with fail
          go_ret
          refine ⟨?_, HO.out, ?_⟩
          · rw [HRR.out, finI_none (ring_bad HV.out)]; exact HS.out
          · rw [HRR.out, finI_none (ring_bad HV.out)]; rfl
        | some l =>
          obtain ⟨kt, kb, ks, hkk⟩ : ∃ kt kb ks, rdKept (some l) = (kt, kb, ks) := ⟨_, _, _, rfl⟩
          have hkf := kept_fact (l := l) HS.out.2
          rw [hkk] at hkf
          have HKF := Lib.hid hkf
          have HKK := Lib.hid hkk
          have HRK : Hid (Calls Try.prog 39 #[.pointer (some ⟨g, 0, none⟩)] wr fun e w' => ∃ v, e = .returned (.tuple #[v, .bool kb]) ∧ SrcL w' g ks ∧ Only wr w' g ∧ LV w' (NewB wr.heap.size w') kt v) := Lib.hid ((ireadkept_any g (some l) wr HS.out).mono fun e w' ⟨v, h1, h2, h3, h4⟩ => by rw [hkk] at h1 h2 h4; exact ⟨v, h1, h2, h3, h4⟩)
          clear hkf hkk
          go_wp2_with fail
          refine (sbad_any g (some l) _ HS.out).mono ?_
          rintro e w1 ⟨rfl, rfl⟩
          go_wp2_with fail
          refine HRK.out.mono ?_
          rintro e w1 ⟨v, rfl, hs1, ho1, hv1⟩
          have hi1 : ImAt w1 (fun x => w.heap.size < x ∧ x < wr.heap.size) w.heap.size m := HI.out.keep (ho1.block _ HI.out.lt (by rintro ⟨⟩; omega)) (fun b hb => ho1.block b hb.2 (by rintro ⟨⟩; have := hb.1; omega))
          have hlt := HI.out.lt
          have hsz1 := ho1.size
          have hss : ∀ b, NewB wr.heap.size w1 b → b < w1.heap.size := fun b hb => hb.2
          have hsg : ¬ NewB wr.heap.size w1 w.heap.size := fun h => by have := h.1; omega
          have hs0 : ∀ b, (w.heap.size < b ∧ b < wr.heap.size) → b < w1.heap.size := fun b hb => by omega
          have hs0g : ¬ (w.heap.size < w.heap.size ∧ w.heap.size < wr.heap.size) := fun h => by omega
          have HHI := Lib.hid hi1
          have HHS := Lib.hid hs1
          have HHO := Lib.hid ho1
          have HHV := Lib.hid hv1
          have HA := Lib.hid (And.intro hlt (And.intro hsz1 (And.intro hss (And.intro hsg (And.intro hs0 hs0g)))))
          clear hi1 hs1 ho1 hv1 hlt hsz1 hss hsg hs0 hs0g HRK
          by_cases href : kb = true ∧ checkT kt ≠ 0
          · obtain ⟨rfl, hck⟩ := href
            have hkn : ks = none := by
              rcases HKF.out with h | h
              · exact h.2 rfl
              · exact absurd h.2.1 hck
            have hkz : kt = zeroT := by
              rcases HKF.out with h | h
              · exact h.1
              · exact absurd h.2.1 hck
            subst hkn
            have hd : depthT kt ≤ 4611686018427387903 := by rw [hkz]; decide
            have HN := Lib.hid (inote_refused (w := w1) (g := w.heap.size) HA.out.2.2.1 HHV.out hd hck)
            have HKN : Hid ((rdKept (some l)).2.2 = none) := Lib.hid (by rw [HKK.out])
            clear hck hkz hd
            go_wp2_with fail
            refine HN.out.mono ?_
            rintro e w2 ⟨rfl, hb2⟩
            have HI2 : Hid (ImAt w2 (fun x => w.heap.size < x ∧ x < w2.heap.size) w.heap.size m) := Lib.hid ((HHI.out.below HA.out.2.2.2.2.1 hb2).imp fun b hb => ⟨hb.1, by have := hb.2; have := HA.out.2.1; have := hb2.size; omega⟩)
            have HS2 : Hid (SrcL w2 g none) := Lib.hid (HHS.out.of (hb2.block g HHS.out.lt))
            have HO2 : Hid (Only w w2 g) := Lib.hid ((HO.out.trans HHO.out).trans ⟨hb2.os, hb2.tape, hb2.output, hb2.size, fun b hb _ => hb2.block b hb⟩)
            clear hb2 HN
            go_wp2_with fail
            go_roundg (2 * c)
            case measure => simp at hnn; omega
            case rel => exact ⟨m, none, c, by simp, HI2, HS2, HO2, Lib.hid (ring_refused HV.out ht HKN.out)⟩
          · have hc : kb = true → checkT kt = 0 := fun h => Decidable.byContradiction fun h2 => href ⟨h, h2⟩
            have hd : depthT kt ≤ 4611686018427387903 := by
              rcases HKF.out with h | h
              · rw [h.1]; decide
              · exact (by have := good_depth h.2; omega)
            have hko : keptO (some l) = if kb = true then some kt else none := by unfold keptO; rw [HKK.out]
            have HN := Lib.hid (inote_any kb HHI.out HV.out.1 HA.out.2.2.2.2.1 HA.out.2.2.2.2.2 HA.out.2.2.1 HA.out.2.2.2.1 HHV.out hd hc)
            rw [← hko] at HN
            have HKO := Lib.hid hko
            have HC := Lib.hid hc
            clear hc hd hko href
            go_wp2_with fail
            refine HN.out.mono ?_
            rintro e w2 ⟨rfl, hi2, ho2⟩
            have HI2 : Hid (ImAt w2 (fun x => w.heap.size < x ∧ x < w2.heap.size) w.heap.size (m.note (keptO (some l)))) := Lib.hid (hi2.imp fun b hb => by
              have h1 := HA.out.2.1; have h2 := ho2.size; have h3 := HA.out.1
              rcases hb with hb | hb
              · exact ⟨hb.1, by have := hb.2; omega⟩
              · exact ⟨by have := hb.1; omega, hb.2⟩)
            have HS2 : Hid (SrcL w2 g ks) := Lib.hid (HHS.out.of (ho2.block g HHS.out.lt (by rintro ⟨⟩; omega)))
            have HO2 : Hid (Only w w2 g) := Lib.hid ((HO.out.trans HHO.out).near ho2 (Nat.le_refl _))
            have HV2 : Hid (RingInv N k m0 s0 t (c - 1) (m.note (keptO (some l))) ks) := Lib.hid (by
              have h := ring_noted HV.out ht htl (fun x hx => by
                rw [HKO.out] at hx
                by_cases hb : kb = true
                · rw [if_pos hb] at hx
                  injection hx with hx
                  subst hx
                  rcases HKF.out with h | h
                  · exact absurd (HC.out hb) (by rw [h.1]; exact zero_check)
                  · exact h.2
                · rw [if_neg hb] at hx; cases hx)
              rw [HKK.out] at h; exact h)
            have hc0 := (HV.out.2.2.1 ht).2
            clear hi2 ho2 HN
            go_wp2_with fail
            go_roundg (2 * (c - 1) + (if ks = none then 0 else 1))
            case measure => simp at hnn; split <;> omega
            case rel => exact ⟨_, ks, c - 1, rfl, HI2, HS2, HO2, HV2⟩
      · cases s with
        | none =>
          go_wp2_with fail
          refine (sbad_any g none _ HS.out).mono ?_
          rintro e w1 ⟨rfl, rfl⟩
          go_wp2_with fail
          go_ret
          refine ⟨?_, HO.out, ?_⟩
          · rw [HRR.out, finI_none (ring_bad HV.out)]; exact HS.out
          · rw [HRR.out, finI_none (ring_bad HV.out)]; rfl
        | some l =>
          go_wp2_with fail
          refine (sbad_any g (some l) _ HS.out).mono ?_
          rintro e w1 ⟨rfl, rfl⟩
          go_wp2_with fail
          go_ret
          refine ⟨?_, HO.out, ?_⟩
          · rw [HRR.out, ring_end HV.out (by omega)]; exact HS.out
          · rw [HRR.out, ring_end HV.out (by omega)]; exact ⟨rfl, HV.out.1, HV.out.2.1, HI.out⟩
  · rw [if_neg htb] at HR
    by_cases hle : ((b : Int) < (t : Int) - (k : Int))
    · have hi8 := HI6.out.setTop (fun h => h) ((t : Int) - (k : Int))
      have hs8 : SrcL (w6.setCell ⟨w.heap.size, 2, none⟩ (.int .i64 ((t : Int) - (k : Int)))) g st3 := HS6.out.far (by show g ≠ w.heap.size; omega) _
      have ho9 : Only w (w6.setCell ⟨w.heap.size, 2, none⟩ (.int .i64 ((t : Int) - (k : Int)))) g := HO6.out.setNew (p := ⟨w.heap.size, 2, none⟩) (Nat.le_refl _) _
      have HI9 : Hid (ImAt (w6.setCell ⟨w.heap.size, 2, none⟩ (.int .i64 ((t : Int) - (k : Int)))).drew (fun _ => False) w.heap.size (startI k b t)) := Lib.hid (by
        have e : (startI k b t) = ⟨k, b, ((t : Int) - (k : Int)), noRing⟩ := by unfold startI; congr 1; omega
        rw [e]; exact hi8.none_keep rfl)
      have HS9 : Hid (SrcL (w6.setCell ⟨w.heap.size, 2, none⟩ (.int .i64 ((t : Int) - (k : Int)))).drew g st3) := Lib.hid (hs8.of rfl)
      have HO9 : Hid (Only w (w6.setCell ⟨w.heap.size, 2, none⟩ (.int .i64 ((t : Int) - (k : Int)))).drew g) := Lib.hid ⟨ho9.os, ho9.tape, ho9.output, ho9.size, ho9.block⟩
      clear hi8 hs8 ho9 HI6 HS6 HO6
      go_wp2_with go_region
      all_goals first | (exfalso; omega) | skip
      generalize hw9 : (w6.setCell ⟨w.heap.size, 2, none⟩ (.int .i64 ((t : Int) - (k : Int)))).drew = w9 at *
      clear hw9 hle
      obtain ⟨s0, hs0⟩ : ∃ s : Option (List UInt8), s = st3 := ⟨_, rfl⟩
      rw [← hs0] at HS9 HR
      clear hs0
      obtain ⟨N, hN⟩ : ∃ N, N = t - max b (t - k) := ⟨_, rfl⟩
      obtain ⟨m0, hm0⟩ : ∃ m, m = startI k b t := ⟨_, rfl⟩
      rw [← hN, ← hm0] at HR
      rw [← hm0] at HI9
      have hinv : RingInv N k m0 s0 t N m0 s0 := by
        have e : m0.top = max (b : Int) ((t : Int) - k) := by rw [hm0]; rfl
        refine ⟨by rw [hm0]; exact ⟨by show (0 : Int) ≤ k; omega, hkl, by show (0 : Int) ≤ b; omega, by show (b : Int) ≤ max (b : Int) ((t : Int) - k); omega, by show max (b : Int) ((t : Int) - k) ≤ _; omega⟩, by rw [hm0]; exact start_good k b t, by rw [e, hN]; omega, by rw [e, hN]; omega, ?_⟩
        cases s0 with
        | none => exact rdRing_none _ _
        | some l => rfl
      have HINV := Lib.hid hinv
      have HI10 : Hid (ImAt w9 (fun x => w.heap.size < x ∧ x < w9.heap.size) w.heap.size m0) := Lib.hid (HI9.out.imp fun b h => h.elim)
      have HRR := HR
      clear hN hm0 hinv HI9 HR y0 y1 y2 yf
      go_loopg [] (2 * N + (if s0 = none then 0 else 1)) (fun n wr => ∃ (m : ImT) (s : Option (List UInt8)) (c : Nat), n = 2 * c + (if s = none then 0 else 1) ∧ Hid (ImAt wr (fun x => w.heap.size < x ∧ x < wr.heap.size) w.heap.size m) ∧ Hid (SrcL wr g s) ∧ Hid (Only w wr g) ∧ Hid (RingInv N k m0 s0 t c m s))
      case atStart => exact ⟨m0, s0, N, rfl, HI10, HS9, HO9, HINV⟩
      case round =>
        clear HI10 HS9 HO9 HINV
        obtain ⟨m, s, c, hnn, HI, HS, HO, HV⟩ := hrel
        have y2 := HI.out.c2
        by_cases ht : m.top < (t : Int)
        · cases s with
          | none =>
            go_wp2_with fail
            refine (sbad_any g none _ HS.out).mono ?_
            rintro e w1 ⟨rfl, rfl⟩
            go_wp2_with fail
            refine (sbad_any g none _ HS.out).mono ?_
            rintro e w1 ⟨rfl, rfl⟩
            go_wp2_with fail
            go_ret
            refine ⟨?_, HO.out, ?_⟩
            · rw [HRR.out, finI_none (ring_bad HV.out)]; exact HS.out
            · rw [HRR.out, finI_none (ring_bad HV.out)]; rfl
          | some l =>
            obtain ⟨kt, kb, ks, hkk⟩ : ∃ kt kb ks, rdKept (some l) = (kt, kb, ks) := ⟨_, _, _, rfl⟩
            have hkf := kept_fact (l := l) HS.out.2
            rw [hkk] at hkf
            have HKF := Lib.hid hkf
            have HKK := Lib.hid hkk
            have HRK : Hid (Calls Try.prog 39 #[.pointer (some ⟨g, 0, none⟩)] wr fun e w' => ∃ v, e = .returned (.tuple #[v, .bool kb]) ∧ SrcL w' g ks ∧ Only wr w' g ∧ LV w' (NewB wr.heap.size w') kt v) := Lib.hid ((ireadkept_any g (some l) wr HS.out).mono fun e w' ⟨v, h1, h2, h3, h4⟩ => by rw [hkk] at h1 h2 h4; exact ⟨v, h1, h2, h3, h4⟩)
            clear hkf hkk
            go_wp2_with fail
            refine (sbad_any g (some l) _ HS.out).mono ?_
            rintro e w1 ⟨rfl, rfl⟩
            go_wp2_with fail
            refine HRK.out.mono ?_
            rintro e w1 ⟨v, rfl, hs1, ho1, hv1⟩
            have hi1 : ImAt w1 (fun x => w.heap.size < x ∧ x < wr.heap.size) w.heap.size m := HI.out.keep (ho1.block _ HI.out.lt (by rintro ⟨⟩; omega)) (fun b hb => ho1.block b hb.2 (by rintro ⟨⟩; have := hb.1; omega))
            have hlt := HI.out.lt
            have hsz1 := ho1.size
            have hss : ∀ b, NewB wr.heap.size w1 b → b < w1.heap.size := fun b hb => hb.2
            have hsg : ¬ NewB wr.heap.size w1 w.heap.size := fun h => by have := h.1; omega
            have hs0 : ∀ b, (w.heap.size < b ∧ b < wr.heap.size) → b < w1.heap.size := fun b hb => by omega
            have hs0g : ¬ (w.heap.size < w.heap.size ∧ w.heap.size < wr.heap.size) := fun h => by omega
            have HHI := Lib.hid hi1
            have HHS := Lib.hid hs1
            have HHO := Lib.hid ho1
            have HHV := Lib.hid hv1
            have HA := Lib.hid (And.intro hlt (And.intro hsz1 (And.intro hss (And.intro hsg (And.intro hs0 hs0g)))))
            clear hi1 hs1 ho1 hv1 hlt hsz1 hss hsg hs0 hs0g HRK
            by_cases href : kb = true ∧ checkT kt ≠ 0
            · obtain ⟨rfl, hck⟩ := href
              have hkn : ks = none := by
                rcases HKF.out with h | h
                · exact h.2 rfl
                · exact absurd h.2.1 hck
              have hkz : kt = zeroT := by
                rcases HKF.out with h | h
                · exact h.1
                · exact absurd h.2.1 hck
              subst hkn
              have hd : depthT kt ≤ 4611686018427387903 := by rw [hkz]; decide
              have HN := Lib.hid (inote_refused (w := w1) (g := w.heap.size) HA.out.2.2.1 HHV.out hd hck)
              have HKN : Hid ((rdKept (some l)).2.2 = none) := Lib.hid (by rw [HKK.out])
              clear hck hkz hd
              go_wp2_with fail
              refine HN.out.mono ?_
              rintro e w2 ⟨rfl, hb2⟩
              have HI2 : Hid (ImAt w2 (fun x => w.heap.size < x ∧ x < w2.heap.size) w.heap.size m) := Lib.hid ((HHI.out.below HA.out.2.2.2.2.1 hb2).imp fun b hb => ⟨hb.1, by have := hb.2; have := HA.out.2.1; have := hb2.size; omega⟩)
              have HS2 : Hid (SrcL w2 g none) := Lib.hid (HHS.out.of (hb2.block g HHS.out.lt))
              have HO2 : Hid (Only w w2 g) := Lib.hid ((HO.out.trans HHO.out).trans ⟨hb2.os, hb2.tape, hb2.output, hb2.size, fun b hb _ => hb2.block b hb⟩)
              clear hb2 HN
              go_wp2_with fail
              go_roundg (2 * c)
              case measure => simp at hnn; omega
              case rel => exact ⟨m, none, c, by simp, HI2, HS2, HO2, Lib.hid (ring_refused HV.out ht HKN.out)⟩
            · have hc : kb = true → checkT kt = 0 := fun h => Decidable.byContradiction fun h2 => href ⟨h, h2⟩
              have hd : depthT kt ≤ 4611686018427387903 := by
                rcases HKF.out with h | h
                · rw [h.1]; decide
                · exact (by have := good_depth h.2; omega)
              have hko : keptO (some l) = if kb = true then some kt else none := by unfold keptO; rw [HKK.out]
              have HN := Lib.hid (inote_any kb HHI.out HV.out.1 HA.out.2.2.2.2.1 HA.out.2.2.2.2.2 HA.out.2.2.1 HA.out.2.2.2.1 HHV.out hd hc)
              rw [← hko] at HN
              have HKO := Lib.hid hko
              have HC := Lib.hid hc
              clear hc hd hko href
              go_wp2_with fail
              refine HN.out.mono ?_
              rintro e w2 ⟨rfl, hi2, ho2⟩
              have HI2 : Hid (ImAt w2 (fun x => w.heap.size < x ∧ x < w2.heap.size) w.heap.size (m.note (keptO (some l)))) := Lib.hid (hi2.imp fun b hb => by
                have h1 := HA.out.2.1; have h2 := ho2.size; have h3 := HA.out.1
                rcases hb with hb | hb
                · exact ⟨hb.1, by have := hb.2; omega⟩
                · exact ⟨by have := hb.1; omega, hb.2⟩)
              have HS2 : Hid (SrcL w2 g ks) := Lib.hid (HHS.out.of (ho2.block g HHS.out.lt (by rintro ⟨⟩; omega)))
              have HO2 : Hid (Only w w2 g) := Lib.hid ((HO.out.trans HHO.out).near ho2 (Nat.le_refl _))
              have HV2 : Hid (RingInv N k m0 s0 t (c - 1) (m.note (keptO (some l))) ks) := Lib.hid (by
                have h := ring_noted HV.out ht htl (fun x hx => by
                  rw [HKO.out] at hx
                  by_cases hb : kb = true
                  · rw [if_pos hb] at hx
                    injection hx with hx
                    subst hx
                    rcases HKF.out with h | h
                    · exact absurd (HC.out hb) (by rw [h.1]; exact zero_check)
                    · exact h.2
                  · rw [if_neg hb] at hx; cases hx)
                rw [HKK.out] at h; exact h)
              have hc0 := (HV.out.2.2.1 ht).2
              clear hi2 ho2 HN
              go_wp2_with fail
              go_roundg (2 * (c - 1) + (if ks = none then 0 else 1))
              case measure => simp at hnn; split <;> omega
              case rel => exact ⟨_, ks, c - 1, rfl, HI2, HS2, HO2, HV2⟩
        · cases s with
          | none =>
            go_wp2_with fail
            refine (sbad_any g none _ HS.out).mono ?_
            rintro e w1 ⟨rfl, rfl⟩
            go_wp2_with fail
            go_ret
            refine ⟨?_, HO.out, ?_⟩
            · rw [HRR.out, finI_none (ring_bad HV.out)]; exact HS.out
            · rw [HRR.out, finI_none (ring_bad HV.out)]; rfl
          | some l =>
            go_wp2_with fail
            refine (sbad_any g (some l) _ HS.out).mono ?_
            rintro e w1 ⟨rfl, rfl⟩
            go_wp2_with fail
            go_ret
            refine ⟨?_, HO.out, ?_⟩
            · rw [HRR.out, ring_end HV.out (by omega)]; exact HS.out
            · rw [HRR.out, ring_end HV.out (by omega)]; exact ⟨rfl, HV.out.1, HV.out.2.1, HI.out⟩
    · have hi8 := HI6.out.setTop (fun h => h) ((b : Int))
      have hs8 : SrcL (w6.setCell ⟨w.heap.size, 2, none⟩ (.int .i64 ((b : Int)))) g st3 := HS6.out.far (by show g ≠ w.heap.size; omega) _
      have ho9 : Only w (w6.setCell ⟨w.heap.size, 2, none⟩ (.int .i64 ((b : Int)))) g := HO6.out.setNew (p := ⟨w.heap.size, 2, none⟩) (Nat.le_refl _) _
      have HI9 : Hid (ImAt (w6.setCell ⟨w.heap.size, 2, none⟩ (.int .i64 ((b : Int)))).drew (fun _ => False) w.heap.size (startI k b t)) := Lib.hid (by
        have e : (startI k b t) = ⟨k, b, ((b : Int)), noRing⟩ := by unfold startI; congr 1; omega
        rw [e]; exact hi8.none_keep rfl)
      have HS9 : Hid (SrcL (w6.setCell ⟨w.heap.size, 2, none⟩ (.int .i64 ((b : Int)))).drew g st3) := Lib.hid (hs8.of rfl)
      have HO9 : Hid (Only w (w6.setCell ⟨w.heap.size, 2, none⟩ (.int .i64 ((b : Int)))).drew g) := Lib.hid ⟨ho9.os, ho9.tape, ho9.output, ho9.size, ho9.block⟩
      clear hi8 hs8 ho9 HI6 HS6 HO6
      go_wp2_with go_region
      all_goals first | (exfalso; omega) | skip
      generalize hw9 : (w6.setCell ⟨w.heap.size, 2, none⟩ (.int .i64 ((b : Int)))).drew = w9 at *
      clear hw9 hle
      obtain ⟨s0, hs0⟩ : ∃ s : Option (List UInt8), s = st3 := ⟨_, rfl⟩
      rw [← hs0] at HS9 HR
      clear hs0
      obtain ⟨N, hN⟩ : ∃ N, N = t - max b (t - k) := ⟨_, rfl⟩
      obtain ⟨m0, hm0⟩ : ∃ m, m = startI k b t := ⟨_, rfl⟩
      rw [← hN, ← hm0] at HR
      rw [← hm0] at HI9
      have hinv : RingInv N k m0 s0 t N m0 s0 := by
        have e : m0.top = max (b : Int) ((t : Int) - k) := by rw [hm0]; rfl
        refine ⟨by rw [hm0]; exact ⟨by show (0 : Int) ≤ k; omega, hkl, by show (0 : Int) ≤ b; omega, by show (b : Int) ≤ max (b : Int) ((t : Int) - k); omega, by show max (b : Int) ((t : Int) - k) ≤ _; omega⟩, by rw [hm0]; exact start_good k b t, by rw [e, hN]; omega, by rw [e, hN]; omega, ?_⟩
        cases s0 with
        | none => exact rdRing_none _ _
        | some l => rfl
      have HINV := Lib.hid hinv
      have HI10 : Hid (ImAt w9 (fun x => w.heap.size < x ∧ x < w9.heap.size) w.heap.size m0) := Lib.hid (HI9.out.imp fun b h => h.elim)
      have HRR := HR
      clear hN hm0 hinv HI9 HR y0 y1 y2 yf
      go_loopg [] (2 * N + (if s0 = none then 0 else 1)) (fun n wr => ∃ (m : ImT) (s : Option (List UInt8)) (c : Nat), n = 2 * c + (if s = none then 0 else 1) ∧ Hid (ImAt wr (fun x => w.heap.size < x ∧ x < wr.heap.size) w.heap.size m) ∧ Hid (SrcL wr g s) ∧ Hid (Only w wr g) ∧ Hid (RingInv N k m0 s0 t c m s))
      case atStart => exact ⟨m0, s0, N, rfl, HI10, HS9, HO9, HINV⟩
      case round =>
        clear HI10 HS9 HO9 HINV
        obtain ⟨m, s, c, hnn, HI, HS, HO, HV⟩ := hrel
        have y2 := HI.out.c2
        by_cases ht : m.top < (t : Int)
        · cases s with
          | none =>
            go_wp2_with fail
            refine (sbad_any g none _ HS.out).mono ?_
            rintro e w1 ⟨rfl, rfl⟩
            go_wp2_with fail
            refine (sbad_any g none _ HS.out).mono ?_
            rintro e w1 ⟨rfl, rfl⟩
            go_wp2_with fail
            go_ret
            refine ⟨?_, HO.out, ?_⟩
            · rw [HRR.out, finI_none (ring_bad HV.out)]; exact HS.out
            · rw [HRR.out, finI_none (ring_bad HV.out)]; rfl
          | some l =>
            obtain ⟨kt, kb, ks, hkk⟩ : ∃ kt kb ks, rdKept (some l) = (kt, kb, ks) := ⟨_, _, _, rfl⟩
            have hkf := kept_fact (l := l) HS.out.2
            rw [hkk] at hkf
            have HKF := Lib.hid hkf
            have HKK := Lib.hid hkk
            have HRK : Hid (Calls Try.prog 39 #[.pointer (some ⟨g, 0, none⟩)] wr fun e w' => ∃ v, e = .returned (.tuple #[v, .bool kb]) ∧ SrcL w' g ks ∧ Only wr w' g ∧ LV w' (NewB wr.heap.size w') kt v) := Lib.hid ((ireadkept_any g (some l) wr HS.out).mono fun e w' ⟨v, h1, h2, h3, h4⟩ => by rw [hkk] at h1 h2 h4; exact ⟨v, h1, h2, h3, h4⟩)
            clear hkf hkk
            go_wp2_with fail
            refine (sbad_any g (some l) _ HS.out).mono ?_
            rintro e w1 ⟨rfl, rfl⟩
            go_wp2_with fail
            refine HRK.out.mono ?_
            rintro e w1 ⟨v, rfl, hs1, ho1, hv1⟩
            have hi1 : ImAt w1 (fun x => w.heap.size < x ∧ x < wr.heap.size) w.heap.size m := HI.out.keep (ho1.block _ HI.out.lt (by rintro ⟨⟩; omega)) (fun b hb => ho1.block b hb.2 (by rintro ⟨⟩; have := hb.1; omega))
            have hlt := HI.out.lt
            have hsz1 := ho1.size
            have hss : ∀ b, NewB wr.heap.size w1 b → b < w1.heap.size := fun b hb => hb.2
            have hsg : ¬ NewB wr.heap.size w1 w.heap.size := fun h => by have := h.1; omega
            have hs0 : ∀ b, (w.heap.size < b ∧ b < wr.heap.size) → b < w1.heap.size := fun b hb => by omega
            have hs0g : ¬ (w.heap.size < w.heap.size ∧ w.heap.size < wr.heap.size) := fun h => by omega
            have HHI := Lib.hid hi1
            have HHS := Lib.hid hs1
            have HHO := Lib.hid ho1
            have HHV := Lib.hid hv1
            have HA := Lib.hid (And.intro hlt (And.intro hsz1 (And.intro hss (And.intro hsg (And.intro hs0 hs0g)))))
            clear hi1 hs1 ho1 hv1 hlt hsz1 hss hsg hs0 hs0g HRK
            by_cases href : kb = true ∧ checkT kt ≠ 0
            · obtain ⟨rfl, hck⟩ := href
              have hkn : ks = none := by
                rcases HKF.out with h | h
                · exact h.2 rfl
                · exact absurd h.2.1 hck
              have hkz : kt = zeroT := by
                rcases HKF.out with h | h
                · exact h.1
                · exact absurd h.2.1 hck
              subst hkn
              have hd : depthT kt ≤ 4611686018427387903 := by rw [hkz]; decide
              have HN := Lib.hid (inote_refused (w := w1) (g := w.heap.size) HA.out.2.2.1 HHV.out hd hck)
              have HKN : Hid ((rdKept (some l)).2.2 = none) := Lib.hid (by rw [HKK.out])
              clear hck hkz hd
              go_wp2_with fail
              refine HN.out.mono ?_
              rintro e w2 ⟨rfl, hb2⟩
              have HI2 : Hid (ImAt w2 (fun x => w.heap.size < x ∧ x < w2.heap.size) w.heap.size m) := Lib.hid ((HHI.out.below HA.out.2.2.2.2.1 hb2).imp fun b hb => ⟨hb.1, by have := hb.2; have := HA.out.2.1; have := hb2.size; omega⟩)
              have HS2 : Hid (SrcL w2 g none) := Lib.hid (HHS.out.of (hb2.block g HHS.out.lt))
              have HO2 : Hid (Only w w2 g) := Lib.hid ((HO.out.trans HHO.out).trans ⟨hb2.os, hb2.tape, hb2.output, hb2.size, fun b hb _ => hb2.block b hb⟩)
              clear hb2 HN
              go_wp2_with fail
              go_roundg (2 * c)
              case measure => simp at hnn; omega
              case rel => exact ⟨m, none, c, by simp, HI2, HS2, HO2, Lib.hid (ring_refused HV.out ht HKN.out)⟩
            · have hc : kb = true → checkT kt = 0 := fun h => Decidable.byContradiction fun h2 => href ⟨h, h2⟩
              have hd : depthT kt ≤ 4611686018427387903 := by
                rcases HKF.out with h | h
                · rw [h.1]; decide
                · exact (by have := good_depth h.2; omega)
              have hko : keptO (some l) = if kb = true then some kt else none := by unfold keptO; rw [HKK.out]
              have HN := Lib.hid (inote_any kb HHI.out HV.out.1 HA.out.2.2.2.2.1 HA.out.2.2.2.2.2 HA.out.2.2.1 HA.out.2.2.2.1 HHV.out hd hc)
              rw [← hko] at HN
              have HKO := Lib.hid hko
              have HC := Lib.hid hc
              clear hc hd hko href
              go_wp2_with fail
              refine HN.out.mono ?_
              rintro e w2 ⟨rfl, hi2, ho2⟩
              have HI2 : Hid (ImAt w2 (fun x => w.heap.size < x ∧ x < w2.heap.size) w.heap.size (m.note (keptO (some l)))) := Lib.hid (hi2.imp fun b hb => by
                have h1 := HA.out.2.1; have h2 := ho2.size; have h3 := HA.out.1
                rcases hb with hb | hb
                · exact ⟨hb.1, by have := hb.2; omega⟩
                · exact ⟨by have := hb.1; omega, hb.2⟩)
              have HS2 : Hid (SrcL w2 g ks) := Lib.hid (HHS.out.of (ho2.block g HHS.out.lt (by rintro ⟨⟩; omega)))
              have HO2 : Hid (Only w w2 g) := Lib.hid ((HO.out.trans HHO.out).near ho2 (Nat.le_refl _))
              have HV2 : Hid (RingInv N k m0 s0 t (c - 1) (m.note (keptO (some l))) ks) := Lib.hid (by
                have h := ring_noted HV.out ht htl (fun x hx => by
                  rw [HKO.out] at hx
                  by_cases hb : kb = true
                  · rw [if_pos hb] at hx
                    injection hx with hx
                    subst hx
                    rcases HKF.out with h | h
                    · exact absurd (HC.out hb) (by rw [h.1]; exact zero_check)
                    · exact h.2
                  · rw [if_neg hb] at hx; cases hx)
                rw [HKK.out] at h; exact h)
              have hc0 := (HV.out.2.2.1 ht).2
              clear hi2 ho2 HN
              go_wp2_with fail
              go_roundg (2 * (c - 1) + (if ks = none then 0 else 1))
              case measure => simp at hnn; split <;> omega
              case rel => exact ⟨_, ks, c - 1, rfl, HI2, HS2, HO2, HV2⟩
        · cases s with
          | none =>
            go_wp2_with fail
            refine (sbad_any g none _ HS.out).mono ?_
            rintro e w1 ⟨rfl, rfl⟩
            go_wp2_with fail
            go_ret
            refine ⟨?_, HO.out, ?_⟩
            · rw [HRR.out, finI_none (ring_bad HV.out)]; exact HS.out
            · rw [HRR.out, finI_none (ring_bad HV.out)]; rfl
          | some l =>
            go_wp2_with fail
            refine (sbad_any g (some l) _ HS.out).mono ?_
            rintro e w1 ⟨rfl, rfl⟩
            go_wp2_with fail
            go_ret
            refine ⟨?_, HO.out, ?_⟩
            · rw [HRR.out, ring_end HV.out (by omega)]; exact HS.out
            · rw [HRR.out, ring_end HV.out (by omega)]; exact ⟨rfl, HV.out.1, HV.out.2.1, HI.out⟩
end Go.Proofs.Ytdggeokpnaopiaa
