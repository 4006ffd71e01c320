/- What must come of every program at the third layer, comes. -/
import Derived.Test.YtopmeoonepkodaaKCodA
import Derived.Test.YtopmeoonepkodaaKCodZ
import Derived.Test.YtopmeoonepkodaaKReg
import Derived.Test.YtopmeoonepkodaaKRefQ
import Derived.Lib.SlBytesConst
namespace Go.Proofs.Ytopmeoonepkodaa
set_option linter.unusedVariables false
set_option linter.unusedSimpArgs false
open Go.RowKit
theorem KeepG.only {g : Nat} {w w' : World} (h : Only w w' g) : KeepG g w w' := ⟨h.size, fun b hb hg => h.block b hb (fun e => hg (by cases e; rfl))⟩
def docT : VT := .mk 7 0 eS [.mk 3 5 eS [] []] [⟨#[97]⟩]
def docB : List UInt8 := [7, 1, 1, 97, 3, 10]
theorem doc_may : mayT docT = true := by kernel_rfl
theorem doc_depth : depthT docT = 2 := by kernel_rfl
theorem doc_size : sizeT docT = 6 := by kernel_rfl
theorem doc_whole : Whole docT := ⟨doc_may, by rw [doc_depth]; decide, by rw [doc_size]; decide⟩
theorem doc_check : checkT docT = 0 := (check_zero (by rw [doc_size]; decide)).2 ⟨doc_whole.may, doc_whole.depth, doc_whole.size⟩
theorem doc_enc : encT docT = docB := by kernel_rfl
theorem doc_encO : encO docT = docB := by unfold encO; rw [if_pos doc_check, doc_enc]
theorem doc_rng : rngT docT := by
  unfold docT rngT
  refine ⟨by unfold Rng; omega, ?_⟩
  unfold rngL rngT
  refine ⟨⟨by unfold Rng; omega, by unfold rngL; trivial⟩, by unfold rngL; trivial⟩
theorem readO_code {t : VT} (h : Whole t) (hr : rngT t) (r : List UInt8) : readO (some (encT t ++ r)) = (t, some r) := by rw [readO_some, readS_code h hr r]
theorem doc_read : readO (some docB) = (docT, some []) := by
  have h := readO_code doc_whole doc_rng []
  rw [doc_enc, List.append_nil] at h
  exact h
theorem doc_decE : decE docB = 0 := by unfold decE; rw [doc_read]; rfl
theorem doc_decT : decT docB = docT := by unfold decT; rw [doc_read]; rfl
theorem nine_read : readO (some [9]) = (zeroT, none) := by
  have h : readS [9] = none := by
    unfold readS
    have h1 : rdW 8 [9] = some (.mk 9 0 eS [] [], []) := by kernel_rfl
    rw [h1]
    have h2 : mayT (.mk 9 0 eS [] []) = false := by kernel_rfl
    simp [checkT, h2]
  rw [readO_some, h]
theorem nine_decE : decE [9] = 10 := by unfold decE; rw [nine_read]; rfl
theorem leaf_whole (k i : Int) (s : ByteArray) (h : mayT (.mk k i s [] []) = true) (h2 : sizeT (.mk k i s [] []) ≤ 4096) : Whole (.mk k i s [] []) := ⟨h, by rw [depthT_mk]; unfold depthL; omega, h2⟩
theorem leaf_rng (k i : Int) (s : ByteArray) (h : Rng i) : rngT (.mk k i s [] []) := by unfold rngT; exact ⟨h, by unfold rngL; trivial⟩
theorem three_one : readO (some [1, 2, 1]) = (.mk 1 0 eS [] [], some [2, 1]) :=
  readO_code (t := .mk 1 0 eS [] []) (leaf_whole 1 0 eS (by kernel_rfl) (by have h : sizeT (.mk 1 0 eS [] []) = 1 := by kernel_rfl
                                                                            rw [h]; decide)) (leaf_rng _ _ _ (by unfold Rng; omega)) [2, 1]
theorem three_two : readO (some [2, 1]) = (.mk 2 1 eS [] [], some []) :=
  readO_code (t := .mk 2 1 eS [] []) (leaf_whole 2 1 eS (by kernel_rfl) (by have h : sizeT (.mk 2 1 eS [] []) = 2 := by kernel_rfl
                                                                            rw [h]; decide)) (leaf_rng _ _ _ (by unfold Rng; omega)) []
theorem x_docB : (([120, 7, 1, 1, 97, 3, 10] : List UInt8) == ((⟨#[120]⟩ : ByteArray) ++ ⟨#[7, 1, 1, 97, 3, 10]⟩).toList) = true := by rw [ByteArray.toList_eq]; rfl
/-- Everything that is there. -/
def All (w : World) : Nat → Prop := fun b => b < w.heap.size
theorem field0 (a b c d e : Value) (w : World) : (Instr.field 25 (.agg #[a, b, c, d, e]) 0).run Try.prog w = .ok a w := by kernel_rfl
theorem field1 (a b c d e : Value) (w : World) : (Instr.field 25 (.agg #[a, b, c, d, e]) 1).run Try.prog w = .ok b w := by kernel_rfl
theorem cvmark (w : World) (C : Array Value) (n c : Nat) : (convert 26 26 (.slice (some ⟨w.heap.size, 0, none⟩) n c)).run Try.prog (w.alloc (.cells C 5)) = .ok (.slice (some ⟨w.heap.size, 0, none⟩) n c) (w.alloc (.cells C 5 (C.size, C.size + 1))) :=
  Lib.run_convert_bytes_const (P := Try.prog) w 26 5 C n c Try.underlying26 Try.underlying5
theorem marked {B : Nat} {v : World} (h : B ≤ v.heap.size) (o o' : Obj) : Below B (v.alloc o) (v.alloc o') := ⟨rfl, rfl, rfl, by simp, fun b hb => by
  have := ((below_box (w := v) o').mono h).block b hb
  exact this.trans (((below_box (w := v) o).mono h).block b hb).symm⟩
theorem Rd.up {w : World} {B B' : Nat} {v : Value} {l : List UInt8} (h : Rd w B v l) (hB : B ≤ B') : Rd w B' v l := by
  obtain ⟨A, cap, h1, h2, h3, h4⟩ := h
  exact ⟨A, cap, h1, h2, h3, fun hl => by obtain ⟨b, off, e, hb, hc⟩ := h4 hl; exact ⟨b, off, e, by omega, hc⟩⟩
theorem Rd.str {w : World} {B : Nat} {v : Value} {l : List UInt8} (h : Rd w B v l) : (convert 26 9 v).run Try.prog w = .ok (.string ⟨l.toArray⟩) w := by
  obtain ⟨A, cap, hv, -⟩ := id h
  rw [hv] at h ⊢
  have := h.conv (Nat.le_refl _) cap
  rw [List.take_length] at this
  exact this
/-- All cells that are there stay, but those of block g. -/
def KeepC (g : Nat) (w w' : World) : Prop := w.heap.size ≤ w'.heap.size ∧ ∀ b o, b < w.heap.size → b ≠ g → w'.cell? ⟨b, o, none⟩ = w.cell? ⟨b, o, none⟩
theorem KeepC.refl (g : Nat) (w : World) : KeepC g w w := ⟨Nat.le_refl _, fun _ _ _ _ => rfl⟩
theorem KeepC.trans (g : Nat) (a b c : World) (h : KeepC g a b) (k : KeepC g b c) : KeepC g a c := ⟨Nat.le_trans h.1 k.1, fun i o hi hg => (k.2 i o (Nat.lt_of_lt_of_le hi h.1) hg).trans (h.2 i o hi hg)⟩
theorem KeepC.of {g : Nat} {w w' : World} (h : Below w.heap.size w w') : KeepC g w w' := ⟨h.size, fun b o hb _ => World.cell?_of_block (a := ⟨b, o, none⟩) (h.block b hb)⟩
theorem KeepC.only {g : Nat} {w w' : World} (h : Only w w' g) : KeepC g w w' := ⟨h.size, fun b o hb hg => World.cell?_of_block (a := ⟨b, o, none⟩) (h.block b hb (fun e => hg (by cases e; rfl)))⟩
theorem KeepC.mark {g : Nat} {v : World} {C : Array Value} {t : TypeId} {fz : Nat × Nat} : KeepC g (v.alloc (.cells C t)) (v.alloc (.cells C t fz)) := by
  refine ⟨by simp, fun b o hb hg => ?_⟩
  by_cases hbv : b = v.heap.size
  · subst hbv
    have h1 : (v.alloc (.cells C t)).cell? ⟨v.heap.size, o, none⟩ = C[o]? := Go.Joins.cell_of_block (heap_alloc_new v _) o
    have h2 : (v.alloc (.cells C t fz)).cell? ⟨v.heap.size, o, none⟩ = C[o]? := Go.Joins.cell_of_block (heap_alloc_new v _) o
    rw [h1, h2]
  · have hb' : b < v.heap.size := by simp at hb; omega
    rw [World.cell?_of_block (a := ⟨b, o, none⟩) (Below.heap_alloc v _ b hb'), World.cell?_of_block (a := ⟨b, o, none⟩) (Below.heap_alloc v _ b hb')]
instance (g : Nat) (w : World) : Inhabited (LaterR (KeepC g) w) := ⟨⟨w, KeepC.refl g w⟩⟩
theorem cell_laterC {g : Nat} {w : World} {b o : Nat} {v : Value} (h : w.cell? ⟨b, o, none⟩ = some v) (hB : b < w.heap.size) (hg : b ≠ g) : ∀ p : LaterR (KeepC g) w, p.u.cell? ⟨b, o, none⟩ = some v := fun p => (p.h.2 b o hB hg).trans h
theorem Rd.keepC {w u : World} {B g : Nat} {v : Value} {l : List UInt8} (h : Rd w B v l) (hk : KeepC g w u) (hB : B ≤ w.heap.size) (hg : B ≤ g) : Rd u B v l := by
  obtain ⟨A, cap, h1, h2, h3, h4⟩ := h
  exact ⟨A, cap, h1, h2, h3, fun hl => by obtain ⟨b, off, e, hb, hc⟩ := h4 hl; exact ⟨b, off, e, hb, fun i hi => (hk.2 b _ (by omega) (by omega)).trans (hc i hi)⟩⟩
theorem OwnB.convC {w : World} {B g : Nat} {v : Value} {l : List UInt8} (h : OwnB w B v l) (hg : g < B) : ∀ p : LaterR (KeepC g) w, (convert 26 9 v).run Try.prog p.u = .ok (.string ⟨l.toArray⟩) p.u := fun p => by
  have hr := h.rd
  obtain ⟨A, cap, h1, h2, h3, h4⟩ := hr
  refine Rd.str (B := w.heap.size) ⟨A, cap, h1, h2, h3, fun hl => ?_⟩
  obtain ⟨b, off, e, hb, hc⟩ := h4 hl
  refine ⟨b, off, e, hb, fun i hi => (p.h.2 b _ hb ?_).trans (hc i hi)⟩
  have := (World.ownsRow.lt h b (by rw [h1, e]; rfl)).1
  omega
/-- What lives: the document, what it was decoded as, and its code. -/
structure L3 (w u : World) (B dB vB : Nat) (S : Nat → Prop) (I N I' N' bv : Value) : Prop where
  h : Below w.heap.size w u
  wB : w.heap.size ≤ B
  n : B ≤ u.heap.size
  dlt : dB < B
  vlt : vB < B
  dx : Box u dB (.int .i64 7) (.int .i64 0) (.string eS) I N
  dv : LV u S docT (.agg #[.int .i64 7, .int .i64 0, .string eS, I, N])
  vx : Box u vB (.int .i64 7) (.int .i64 0) (.string eS) I' N'
  vv : LV u S docT (.agg #[.int .i64 7, .int .i64 0, .string eS, I', N'])
  s : ∀ b, S b → b < B
  b : Rd u B bv docB
theorem L3.keep {w u u' : World} {B dB vB : Nat} {S : Nat → Prop} {I N I' N' bv : Value} (h : L3 w u B dB vB S I N I' N' bv) (hb : Below B u u') : L3 w u' B dB vB S I N I' N' bv :=
  ⟨h.h.trans (hb.mono h.wB), h.wB, Nat.le_trans h.n hb.size, h.dlt, h.vlt, (hb.block dB h.dlt).trans h.dx, h.dv.keep fun b hb' => hb.block b (h.s b hb'), (hb.block vB h.vlt).trans h.vx, h.vv.keep fun b hb' => hb.block b (h.s b hb'), h.s, h.b.keep hb⟩
theorem L3.mark {w u u' : World} {B dB vB g : Nat} {S : Nat → Prop} {I N I' N' bv : Value} (h : L3 w u B dB vB S I N I' N' bv) (hb : Below B u u') : L3 w u' B dB vB S I N I' N' bv := h.keep hb
theorem L3.keepG {w u u' : World} {B dB vB g : Nat} {S : Nat → Prop} {I N I' N' bv : Value} (h : L3 w u B dB vB S I N I' N' bv) (hg : B ≤ g) (hk : KeepG g u u') (hb : Below w.heap.size u u') : L3 w u' B dB vB S I N I' N' bv :=
  h.keep ⟨hb.os, hb.tape, hb.output, hk.1, fun b hb => hk.2 b (by have := h.n; omega) (by omega)⟩
theorem L3.up {w u : World} {B B' dB vB : Nat} {S : Nat → Prop} {I N I' N' bv : Value} (h : L3 w u B dB vB S I N I' N' bv) (hB : B ≤ B') (hB' : B' ≤ u.heap.size) : L3 w u B' dB vB S I N I' N' bv :=
  ⟨h.h, Nat.le_trans h.wB hB, hB', Nat.lt_of_lt_of_le h.dlt hB, Nat.lt_of_lt_of_le h.vlt hB, h.dx, h.dv, h.vx, h.vv, fun b hb => Nat.lt_of_lt_of_le (h.s b hb) hB, h.b.up hB⟩
section
variable {w u : World} {B dB vB : Nat} {S : Nat → Prop} {I N I' N' bv : Value}
theorem l3_same (h : L3 w u B dB vB S I N I' N' bv) : Calls Try.prog 15 #[.agg #[.int .i64 7, .int .i64 0, .string eS, I', N'], .agg #[.int .i64 7, .int .i64 0, .string eS, I, N]] u fun e u' => e = .returned (.bool true) ∧ Below u.heap.size u u' :=
  (rsame_any S 2 docT docT _ _ u (by rw [doc_depth]; exact Nat.le_refl _) (fun b hb => Nat.lt_of_lt_of_le (h.s b hb) h.n) h.vv h.dv).mono fun e u' ⟨⟨r, h1, h2⟩, h3⟩ => ⟨by rw [h1, h2.2 rfl], h3⟩
theorem l3_put (h : L3 w u B dB vB S I N I' N' bv) (x : Value) (l : List UInt8) (hr : Rd u u.heap.size x l) (hl : l.length ≤ 100) : Calls Try.prog 10 #[x, .agg #[.int .i64 7, .int .i64 0, .string eS, I, N]] u fun e u' => (∃ v', e = .returned v' ∧ OwnB u' u.heap.size v' (l ++ docB)) ∧ Below u.heap.size u u' :=
  (cputs_any S docT _ x l u (fun b hb => Nat.lt_of_lt_of_le (h.s b hb) h.n) h.dv (by rw [doc_depth]; decide) (by rw [doc_size]; decide) (by omega) hr).mono fun e u' ⟨v', h1, h2, h3⟩ => ⟨⟨v', h1, by rw [← doc_encO]; exact h2⟩, h3⟩
end
theorem only_below {B g : Nat} {w w' : World} (h : Only w w' g) (hB : B ≤ g) (hz : B ≤ w.heap.size) : Below B w w' := ⟨h.os, h.tape, h.output, h.size, fun k hk => h.block k (by omega) (by rintro ⟨⟩; omega)⟩
set_option maxHeartbeats 4000000 in
set_option maxRecDepth 100000 in
theorem lives3_any (w : World) : Calls Try.prog 8 #[] w fun e w' => e = .returned (.bool true) ∧ Below w.heap.size w w' := by
  obtain ⟨W1, hW1⟩ : ∃ W1, W1 = ((w.alloc (.cells #[.string ⟨#[97]⟩] 9)).alloc (.cells #[.int .i64 3, .int .i64 5, .string ⟨#[]⟩, .slice none 0 0, .slice none 0 0] 25)).alloc (.cells #[.int .i64 7, .int .i64 0, .string ⟨#[]⟩, .slice (some ⟨w.heap.size + 1, 0, none⟩) 1 1, .slice (some ⟨w.heap.size, 0, none⟩) 1 1] 25) := ⟨_, rfl⟩
  have z1 : (w.alloc (.cells #[.string ⟨#[97]⟩] 9)).heap.size = w.heap.size + 1 := by simp
  have z2 : ((w.alloc (.cells #[.string ⟨#[97]⟩] 9)).alloc (.cells #[.int .i64 3, .int .i64 5, .string ⟨#[]⟩, .slice none 0 0, .slice none 0 0] 25)).heap.size = w.heap.size + 2 := by simp
  have z3 : W1.heap.size = w.heap.size + 3 := by rw [hW1]; simp
  have hb1 : Below w.heap.size w W1 := by
    rw [hW1]
    exact (((Below.refl _ _).alloc (Nat.le_refl _) _).alloc (by omega) _).alloc (by omega) _
  have b0 : W1.heap[w.heap.size]? = some (.cells #[.string ⟨#[97]⟩] 9 (0, 0)) := by
    rw [hW1, Below.heap_alloc _ _ _ (by omega), Below.heap_alloc _ _ _ (by omega)]
    exact heap_alloc_new w _
  have b1 : Box W1 (w.heap.size + 1) (.int .i64 3) (.int .i64 5) (.string ⟨#[]⟩) (.slice none 0 0) (.slice none 0 0) := by
    have h := Box.new (w := w.alloc (.cells #[.string ⟨#[97]⟩] 9)) (.int .i64 3) (.int .i64 5) (.string ⟨#[]⟩) (.slice none 0 0) (.slice none 0 0)
    rw [z1] at h
    rw [hW1]
    exact h.alloc _
  have b2 : Box W1 (w.heap.size + 2) (.int .i64 7) (.int .i64 0) (.string eS) (.slice (some ⟨w.heap.size + 1, 0, none⟩) 1 1) (.slice (some ⟨w.heap.size, 0, none⟩) 1 1) := by
    have h := Box.new (w := (w.alloc (.cells #[.string ⟨#[97]⟩] 9)).alloc (.cells #[.int .i64 3, .int .i64 5, .string ⟨#[]⟩, .slice none 0 0, .slice none 0 0] 25)) (.int .i64 7) (.int .i64 0) (.string eS) (.slice (some ⟨w.heap.size + 1, 0, none⟩) 1 1) (.slice (some ⟨w.heap.size, 0, none⟩) 1 1)
    rw [z2] at h
    rw [hW1]
    exact h
  have hN : StrsAt W1 (All W1) (some ⟨w.heap.size, 0, none⟩) [⟨#[97]⟩] := fun _ => ⟨w.heap.size, 0, rfl, by unfold All; omega, fun i hi => by
    obtain rfl : i = 0 := by simp at hi; exact hi
    refine ⟨Go.Joins.cell_of_block b0 0, ?_⟩
    show (⟨#[97]⟩ : ByteArray).size ≤ _
    decide⟩
  have hA : LVA W1 (All W1) (some ⟨w.heap.size + 1, 0, none⟩) [.mk 3 5 eS [] []] := fun _ => ⟨w.heap.size + 1, 0, rfl, by unfold All; omega, by
    unfold LVs
    refine ⟨⟨_, _, _, _, _, b1.c0, b1.c1, b1.c2, b1.c3, b1.c4, leaf_lv _ _ 3 5 eS (by unfold Rng; omega) (by unfold Rng; omega) (by decide)⟩, by unfold LVs; trivial⟩⟩
  have hD : LV W1 (All W1) docT (.agg #[.int .i64 7, .int .i64 0, .string eS, .slice (some ⟨w.heap.size + 1, 0, none⟩) 1 1, .slice (some ⟨w.heap.size, 0, none⟩) 1 1]) :=
    LV.mk (by unfold Rng; omega) (by unfold Rng; omega) (by decide) (by decide) (by decide) hN hA
  have HE := Lib.hid (cencode_any (All W1) docT _ W1 (fun _ h => h) hD (by rw [doc_depth]; decide) (by rw [doc_size]; decide))
  have HB1 := Lib.hid hb1
  have HX1 := Lib.hid b2
  have HD1 := Lib.hid hD
  have HW := Lib.hid hW1
  clear hb1 b0 b1 b2 hN hA hD z1 z2 hW1
  go_enter Try.func8, Try.ntmps8
  go_wp2_with fail
  rw [← HW.out]
  refine HE.out.mono ?_
  rintro e w2 ⟨bv, rfl, hown, hb2⟩
  rw [doc_check]
  rw [doc_encO] at hown
  have hrd := hown.rd
  have HX2 := Lib.hid (HX1.out.call hb2)
  have HD2 : Hid (LV w2 (All W1) docT _) := Lib.hid (HD1.out.keep fun b hb => hb2.block b hb)
  have HB2 := Lib.hid (HB1.out.trans (hb2.mono HB1.out.size))
  have HRD := Lib.hid hrd
  have HZ2 := Lib.hid hb2.size
  have HDE := Lib.hid (cdecode_any bv docB w2 hrd (by decide))
  clear hown hb2 hrd HE HW HX1 HD1
  go_wp2_with fail
  refine HDE.out.mono ?_
  rintro e w3 ⟨vd, rfl, hv3, hb3⟩
  rw [doc_decE]
  rw [doc_decT] at hv3
  obtain ⟨I2, i2, N2, n2, hsh, -⟩ := hv3.shape
  have hsh' : vd = .agg #[.int .i64 7, .int .i64 0, .string eS, .slice I2 1 i2, .slice N2 1 n2] := hsh
  subst hsh'
  clear hsh
  have hz3 := hb3.size
  have hL : L3 w (w3.alloc (.cells #[.int .i64 7, .int .i64 0, .string eS, .slice I2 1 i2, .slice N2 1 n2] 25)) (w3.heap.size + 1) (w.heap.size + 1 + 1) w3.heap.size (fun b => b < w3.heap.size) (.slice (some ⟨w.heap.size + 1, 0, none⟩) 1 1) (.slice (some ⟨w.heap.size, 0, none⟩) 1 1) (.slice I2 1 i2) (.slice N2 1 n2) bv := by
    have hz2 := HZ2.out
    have hba := below_box (w := w3) (.cells #[.int .i64 7, .int .i64 0, .string eS, .slice I2 1 i2, .slice N2 1 n2] 25)
    refine ⟨(HB2.out.trans (hb3.mono (by omega))).alloc (by omega) _, by omega, by simp, by omega, by omega, (HX2.out.call hb3).alloc _, ?_, Box.new _ _ _ _ _, ?_, fun b hb => Nat.lt_succ_of_lt hb, ?_⟩
    · refine ((HD2.out.keep (w' := w3) fun b hb => hb3.block b (by unfold All at hb; omega)).keep (w' := w3.alloc _) fun b hb => hba.block b (by unfold All at hb; omega)).imp fun b hb => by unfold All at hb; omega
    · exact (hv3.keep (w' := w3.alloc _) fun b hb => hba.block b hb.2).imp fun b hb => hb.2
    · exact ((HRD.out.keep (w' := w3) hb3).keep (w' := w3.alloc _) (hba.mono hz3)).up (by omega)
  have HL := Lib.hid hL
  clear hL hv3 hb3 HX2 HD2 HB2 HRD HDE HZ2
  have hz4 : (w3.alloc (.cells #[.int .i64 7, .int .i64 0, .string eS, .slice I2 1 i2, .slice N2 1 n2] 25)).heap.size = w3.heap.size + 1 := by simp
  have hr9 : Rd ((w3.alloc (.cells #[.int .i64 7, .int .i64 0, .string eS, .slice I2 1 i2, .slice N2 1 n2] 25)).alloc (.cells #[.int .u8 9] 5)) ((w3.alloc (.cells #[.int .i64 7, .int .i64 0, .string eS, .slice I2 1 i2, .slice N2 1 n2] 25)).alloc (.cells #[.int .u8 9] 5)).heap.size (.slice (some ⟨w3.heap.size + 1, 0, none⟩) 1 1) [9] := by
    have h := (own_one (w := w3.alloc (.cells #[.int .i64 7, .int .i64 0, .string eS, .slice I2 1 i2, .slice N2 1 n2] 25)) (b := 9) (k := 9) rfl (B := 0) (Nat.zero_le _)).rd
    rw [hz4] at h
    exact h
  have HD9 := Lib.hid (cdecode_any _ [9] _ hr9 (by decide))
  have hL4 := HL.out.keep (u' := (w3.alloc (.cells #[.int .i64 7, .int .i64 0, .string eS, .slice I2 1 i2, .slice N2 1 n2] 25)).alloc (.cells #[.int .u8 9] 5)) ((below_box _).mono HL.out.n)
  have HL4 := Lib.hid hL4
  clear hr9 hL4 HL
  go_wp2_with fail
  refine HD9.out.mono ?_
  rintro e w4 ⟨v9, rfl, hv9, hb4⟩
  rw [nine_decE]
  obtain ⟨I9, i9, N9, n9, rfl, -⟩ := hv9.shape
  have hL5 := HL4.out.keep (hb4.mono HL4.out.n)
  clear hv9 hb4 HD9 HL4 hz4
  generalize decT [9] = t9 at *
  have hL6 := hL5.keep (u' := w4.alloc (.cells #[.int .i64 t9.kind, .int .i64 t9.num, .string t9.text, .slice I9 t9.items.length i9, .slice N9 t9.names.length n9] 25)) ((below_box _).mono hL5.n)
  generalize hw5 : w4.alloc (.cells #[.int .i64 t9.kind, .int .i64 t9.num, .string t9.text, .slice I9 t9.items.length i9, .slice N9 t9.names.length n9] 25) = w5 at hL6
  have HW5 := Lib.hid hw5
  have hL7 := hL6.keep (u' := w5.alloc (.cells #[.int .u8 1, .int .u8 2, .int .u8 1] 5)) ((below_box _).mono hL6.n)
  have hr3 : Rd (w5.alloc (.cells #[.int .u8 1, .int .u8 2, .int .u8 1] 5)) (w5.alloc (.cells #[.int .u8 1, .int .u8 2, .int .u8 1] 5)).heap.size (.slice (some ⟨w5.heap.size, 0, none⟩) 3 3) [1, 2, 1] :=
    OwnB.rd (B := 0) ⟨rfl, .inr ⟨w5.heap.size, 3, _, rfl, Nat.zero_le _, heap_alloc_new w5 _, Nat.le_refl _, by decide, rfl, rfl⟩⟩
  have HF3 := Lib.hid (from_any _ ⟨#[1, 2, 1]⟩ _ hr3.str)
  have hz5 : w5.heap.size = w4.heap.size + 1 := by rw [← hw5]; simp
  have HL7 := Lib.hid hL7
  clear hL5 hL6 hL7 hr3 hw5
  rw [hz5] at HF3
  go_wp2_with fail
  rw [HW5.out]
  refine HF3.out.mono ?_
  rintro e w7 ⟨rfl, hs7, hb7⟩
  have hz7 := hb7.size
  obtain ⟨g, hg⟩ : ∃ g, g = (w5.alloc (.cells #[.int .u8 1, .int .u8 2, .int .u8 1] 5)).heap.size := ⟨_, rfl⟩
  rw [← hg] at hs7 hb7 hz7 ⊢
  have hL8 := (HL7.out.up (B' := g) (by rw [hg]; exact HL7.out.n) (by rw [hg]; exact Nat.le_refl _)).keep hb7
  have hsl : SrcL w7 g (some [1, 2, 1]) := ⟨hs7, by decide⟩
  have HL8 := Lib.hid hL8
  have HS8 := Lib.hid hsl
  clear hL8 hsl hs7 hb7 HL7 HF3 HW5 hz7 hg
  go_wp2_with fail
  have hlw : Below w7.heap.size w7 w7.drew := (Below.refl _ _).drew
  generalize hvB : w3.heap.size = vB at HL8 ⊢
  generalize hSS : (fun b => b < vB) = SS at HL8
  generalize hI1 : Value.slice (some ⟨w.heap.size + 1, 0, none⟩) 1 1 = I1 at HL8 ⊢
  generalize hN1 : Value.slice (some ⟨w.heap.size, 0, none⟩) 1 1 = N1 at HL8 ⊢
  clear hvB hSS hI1 hN1
  refine wp_region_OT (KeepC g) (KeepC.refl g) (KeepC.trans g) [] (.pure [0, 1, 2, 3, 4, 5, 6, 7, 8, 9, 10, 11, 12, 13] (.step 14 (.pure [15, 16, 17, 18, 19, 20, 23, 26, 27, 28] (.step 21 (.step 22 (.step 24 (.pure [25, 29] (.pure [30, 31, 32, 33, 34, 35, 36] (.step 37 (.pure [38, 39, 40, 41, 42] (.step 43 (.pure [44, 45, 46, 47, 48] (.step 49 (.pure [50, 51, 52] (.tail []))))))))))))))) (by kernel_rfl) (by kernel_rfl) (fun _ d _ _ _ h => by cases d <;> exact h) ?_
  have T : Hid (L3 w w7.drew g (w.heap.size + 1 + 1) vB SS I1 N1 (.slice I2 1 i2) (.slice N2 1 n2) bv) := Lib.hid (HL8.out.keep (hlw.mono HL8.out.n))
  have HS : Hid (SrcL w7.drew g (some [1, 2, 1])) := Lib.hid (HS8.out.of rfl)
  clear HL8 HS8 hlw
  generalize w7.drew = v0 at *
  have q0 := cell_laterC (g := g) (w := v0) T.out.dx.c0 (Nat.lt_of_lt_of_le T.out.dlt T.out.n) (Nat.ne_of_lt T.out.dlt)
  have q1 := cell_laterC (g := g) (w := v0) T.out.dx.c1 (Nat.lt_of_lt_of_le T.out.dlt T.out.n) (Nat.ne_of_lt T.out.dlt)
  have q2 := cell_laterC (g := g) (w := v0) T.out.dx.c2 (Nat.lt_of_lt_of_le T.out.dlt T.out.n) (Nat.ne_of_lt T.out.dlt)
  have q3 := cell_laterC (g := g) (w := v0) T.out.dx.c3 (Nat.lt_of_lt_of_le T.out.dlt T.out.n) (Nat.ne_of_lt T.out.dlt)
  have q4 := cell_laterC (g := g) (w := v0) T.out.dx.c4 (Nat.lt_of_lt_of_le T.out.dlt T.out.n) (Nat.ne_of_lt T.out.dlt)
  have y0 := cell_laterC (g := g) (w := v0) T.out.vx.c0 (Nat.lt_of_lt_of_le T.out.vlt T.out.n) (Nat.ne_of_lt T.out.vlt)
  have y1 := cell_laterC (g := g) (w := v0) T.out.vx.c1 (Nat.lt_of_lt_of_le T.out.vlt T.out.n) (Nat.ne_of_lt T.out.vlt)
  have y2 := cell_laterC (g := g) (w := v0) T.out.vx.c2 (Nat.lt_of_lt_of_le T.out.vlt T.out.n) (Nat.ne_of_lt T.out.vlt)
  have y3 := cell_laterC (g := g) (w := v0) T.out.vx.c3 (Nat.lt_of_lt_of_le T.out.vlt T.out.n) (Nat.ne_of_lt T.out.vlt)
  have y4 := cell_laterC (g := g) (w := v0) T.out.vx.c4 (Nat.lt_of_lt_of_le T.out.vlt T.out.n) (Nat.ne_of_lt T.out.vlt)
  have fb : ∀ p : LaterR (KeepC g) v0, (convert 26 9 bv).run Try.prog p.u = .ok (.string ⟨#[7, 1, 1, 97, 3, 10]⟩) p.u := fun p => (T.out.b.keepC p.h T.out.n (Nat.le_refl _)).str
  refine ot_pure ?_
  simp only [atNats, List.filterMap_cons, List.filterMap_nil, List.getElem?_toArray, List.getElem?_cons_succ, List.getElem?_cons_zero]
  show wpQuiet _ _ _ _ [_, _, _, _, _, _, _, _, _, _, _, _, _, _] _
  try simp only [List.getElem_toArray, List.getElem_cons_succ, List.getElem_cons_zero, Act.put, List.setIfInBounds_toArray, List.set_cons_succ, List.set_cons_zero]
  repeat (go_big_quiet_step (fail))
  refine wpQuiet_nil ?_
  clear q0 q1 q2 q3 q4 y0 y1 y2 y3 y4 fb
  refine ot_step rfl (fun K hK => ?_)
  go_simp
  refine (l3_same T.out).mono ?_
  rintro e v1 ⟨rfl, hb⟩
  refine hK _ _ (.inr (KeepC.of hb)) ?_
  clear hK K
  have T := Lib.hid (T.out.keep (hb.mono T.out.n))
  have HS := Lib.hid (HS.out.of (hb.block g HS.out.lt))
  clear hb
  have q0 := cell_laterC (g := g) (w := v1) T.out.dx.c0 (Nat.lt_of_lt_of_le T.out.dlt T.out.n) (Nat.ne_of_lt T.out.dlt)
  have q1 := cell_laterC (g := g) (w := v1) T.out.dx.c1 (Nat.lt_of_lt_of_le T.out.dlt T.out.n) (Nat.ne_of_lt T.out.dlt)
  have q2 := cell_laterC (g := g) (w := v1) T.out.dx.c2 (Nat.lt_of_lt_of_le T.out.dlt T.out.n) (Nat.ne_of_lt T.out.dlt)
  have q3 := cell_laterC (g := g) (w := v1) T.out.dx.c3 (Nat.lt_of_lt_of_le T.out.dlt T.out.n) (Nat.ne_of_lt T.out.dlt)
  have q4 := cell_laterC (g := g) (w := v1) T.out.dx.c4 (Nat.lt_of_lt_of_le T.out.dlt T.out.n) (Nat.ne_of_lt T.out.dlt)
  have fb : ∀ p : LaterR (KeepC g) v1, (convert 26 9 bv).run Try.prog p.u = .ok (.string ⟨#[7, 1, 1, 97, 3, 10]⟩) p.u := fun p => (T.out.b.keepC p.h T.out.n (Nat.le_refl _)).str
  refine ot_pure ?_
  simp only [atNats, List.filterMap_cons, List.filterMap_nil, List.getElem?_toArray, List.getElem?_cons_succ, List.getElem?_cons_zero]
  show wpQuiet _ _ _ _ [_, _, _, _, _, _, _, _, _, _] _
  try simp only [List.getElem_toArray, List.getElem_cons_succ, List.getElem_cons_zero, Act.put, List.setIfInBounds_toArray, List.set_cons_succ, List.set_cons_zero]
  repeat (go_big_quiet_step (fail))
  refine wpQuiet_nil ?_
  clear q0 q1 q2 q3 q4 fb
  refine ot_step rfl (fun K hK => ?_)
  go_simp
  refine hK _ _ (.inr (KeepC.of (below_box _))) ?_
  clear hK K
  have cc := cvmark v1 #[.int .u8 120] 1 1
  refine ot_step rfl (fun K hK => ?_)
  go_simp
  refine hK _ _ (.inr KeepC.mark) ?_
  clear hK K cc
  have hbm : Below v1.heap.size v1 (v1.alloc (.cells #[.int .u8 120] 5 (1, 2))) := below_box _
  have hrx : Rd (v1.alloc (.cells #[.int .u8 120] 5 (1, 2))) (v1.alloc (.cells #[.int .u8 120] 5 (1, 2))).heap.size (.slice (some ⟨v1.heap.size, 0, none⟩) 1 1) [120] :=
    ⟨_, 1, rfl, Nat.le_refl _, ⟨by decide, fun h => by cases h⟩, fun _ => ⟨v1.heap.size, 0, rfl, by simp, fun i hi => by
      obtain rfl : i = 0 := by simp at hi; exact hi
      exact Go.Joins.cell_of_block (heap_alloc_new v1 _) 0⟩⟩
  have T := Lib.hid (T.out.keep (hbm.mono T.out.n))
  have HS := Lib.hid (HS.out.of (hbm.block g HS.out.lt))
  have HRX := Lib.hid hrx
  clear hbm hrx
  refine ot_step rfl (fun K hK => ?_)
  go_simp
  refine (l3_put T.out _ [120] HRX.out (by decide)).mono ?_
  rintro e v2 ⟨⟨pv, rfl, hpo⟩, hb⟩
  refine hK _ _ (.inr (KeepC.of hb)) ?_
  clear hK K
  have hgp : g < (v1.alloc (.cells #[.int .u8 120] 5 (1, 2))).heap.size := Nat.lt_of_lt_of_le HS.out.lt (Nat.le_refl _)
  have fp : ∀ p : LaterR (KeepC g) v2, (convert 26 9 pv).run Try.prog p.u = .ok (.string ⟨#[120, 7, 1, 1, 97, 3, 10]⟩) p.u := hpo.convC hgp
  have T := Lib.hid (T.out.keep (hb.mono T.out.n))
  have HS := Lib.hid (HS.out.of (hb.block g HS.out.lt))
  clear hb hpo HRX
  refine ot_pure ?_
  simp only [atNats, List.filterMap_cons, List.filterMap_nil, List.getElem?_toArray, List.getElem?_cons_succ, List.getElem?_cons_zero]
  show wpQuiet _ _ _ _ [_, _] _
  try simp only [List.getElem_toArray, List.getElem_cons_succ, List.getElem_cons_zero, Act.put, List.setIfInBounds_toArray, List.set_cons_succ, List.set_cons_zero]
  repeat (go_big_quiet_step (fail))
  refine wpQuiet_nil ?_
  clear fp
  have hx7 : (([120, 7, 1, 1, 97, 3, 10] : List UInt8) == ((⟨#[120]⟩ : ByteArray) ++ ⟨#[7, 1, 1, 97, 3, 10]⟩).toList) = true := x_docB
  rw [hx7]
  clear hx7
  refine ot_pure ?_
  simp only [atNats, List.filterMap_cons, List.filterMap_nil, List.getElem?_toArray, List.getElem?_cons_succ, List.getElem?_cons_zero]
  show wpQuiet _ _ _ _ [_, _, _, _, _, _, _] _
  try simp only [List.getElem_toArray, List.getElem_cons_succ, List.getElem_cons_zero, Act.put, List.setIfInBounds_toArray, List.set_cons_succ, List.set_cons_zero]
  repeat (go_big_quiet_step (fail))
  refine wpQuiet_nil ?_
  refine ot_step rfl (fun K hK => ?_)
  go_simp
  refine (cread_any g _ v2 HS.out).mono ?_
  rintro e v3 ⟨r1, rfl, hs3, ho3, hv3⟩
  refine hK _ _ (.inr (KeepC.only ho3)) ?_
  clear hK K
  rw [three_one] at hs3 hv3
  obtain ⟨Ia, ia, Na, na, hsh, -⟩ := hv3.shape
  have hsh' : r1 = .agg #[.int .i64 1, .int .i64 0, .string eS, .slice Ia 0 ia, .slice Na 0 na] := hsh
  subst hsh'
  clear hsh
  have T := Lib.hid (T.out.keepG (Nat.le_refl _) (KeepG.only ho3) (only_below ho3 T.out.wB T.out.h.size))
  have HS := Lib.hid hs3
  have fd := fun p : LaterR (KeepC g) v3 => field0 (.int .i64 1) (.int .i64 0) (.string eS) (.slice Ia 0 ia) (.slice Na 0 na) p.u
  clear hs3 ho3 hv3
  refine ot_pure ?_
  simp only [atNats, List.filterMap_cons, List.filterMap_nil, List.getElem?_toArray, List.getElem?_cons_succ, List.getElem?_cons_zero]
  show wpQuiet _ _ _ _ [_, _, _, _, _] _
  try simp only [List.getElem_toArray, List.getElem_cons_succ, List.getElem_cons_zero, Act.put, List.setIfInBounds_toArray, List.set_cons_succ, List.set_cons_zero]
  repeat (go_big_quiet_step (fail))
  refine wpQuiet_nil ?_
  clear fd
  refine ot_step rfl (fun K hK => ?_)
  go_simp
  refine (cread_any g _ v3 HS.out).mono ?_
  rintro e v4 ⟨r2, rfl, hs4, ho4, hv4⟩
  refine hK _ _ (.inr (KeepC.only ho4)) ?_
  clear hK K
  rw [three_two] at hs4 hv4
  obtain ⟨Ib, ib, Nb, nb, hsh, -⟩ := hv4.shape
  have hsh' : r2 = .agg #[.int .i64 2, .int .i64 1, .string eS, .slice Ib 0 ib, .slice Nb 0 nb] := hsh
  subst hsh'
  clear hsh
  have T := Lib.hid (T.out.keepG (Nat.le_refl _) (KeepG.only ho4) (only_below ho4 T.out.wB T.out.h.size))
  have HS := Lib.hid hs4
  have fd := fun p : LaterR (KeepC g) v4 => field1 (.int .i64 2) (.int .i64 1) (.string eS) (.slice Ib 0 ib) (.slice Nb 0 nb) p.u
  clear hs4 ho4 hv4
  refine ot_pure ?_
  simp only [atNats, List.filterMap_cons, List.filterMap_nil, List.getElem?_toArray, List.getElem?_cons_succ, List.getElem?_cons_zero]
  show wpQuiet _ _ _ _ [_, _, _, _, _] _
  try simp only [List.getElem_toArray, List.getElem_cons_succ, List.getElem_cons_zero, Act.put, List.setIfInBounds_toArray, List.set_cons_succ, List.set_cons_zero]
  repeat (go_big_quiet_step (fail))
  refine wpQuiet_nil ?_
  clear fd
  refine ot_step rfl (fun K hK => ?_)
  go_simp
  refine (sdone_st g _ v4 HS.out).mono ?_
  rintro e v5 ⟨rfl, rfl⟩
  refine hK _ _ (.inr (KeepC.refl g _)) ?_
  clear hK K
  have hd0 : doneOf (some ([] : List UInt8)) = 0 := rfl
  simp only [hd0]
  refine ot_pure ?_
  simp only [atNats, List.filterMap_cons, List.filterMap_nil, List.getElem?_toArray, List.getElem?_cons_succ, List.getElem?_cons_zero]
  show wpQuiet _ _ _ _ [_, _, _] _
  try simp only [List.getElem_toArray, List.getElem_cons_succ, List.getElem_cons_zero, Act.put, List.setIfInBounds_toArray, List.set_cons_succ, List.set_cons_zero]
  repeat (go_big_quiet_step (fail))
  refine wpQuiet_nil ?_
  refine ot_end ?_
  have HF := Lib.hid T.out.h
  clear T HS
  go_wp2_with fail
  go_ret
  exact ⟨rfl, HF.out⟩
end Go.Proofs.Ytopmeoonepkodaa
