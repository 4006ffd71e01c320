/- Decode. -/
import Derived.Test.YtopmeoonepkodaaKCodX
import Derived.Test.YtopmeoonepkodaaKRefA
import Derived.Laws.ResultCell
namespace Go.Proofs.Ytopmeoonepkodaa
set_option linter.unusedVariables false
set_option linter.unusedSimpArgs false
open Go.RowKit
theorem sdone_st (g : Nat) (st : Option (List UInt8)) (w : World) (h : SrcL w g st) : Calls Try.prog 24 #[.pointer (some ⟨g, 0, none⟩)] w fun e w' => e = .returned (.int .i64 (doneOf st)) ∧ w = w' := by
  rcases st with _ | l
  · exact sdone_none g w h
  · exact sdone_any g l w h
/-- What bytes are as a value. -/
def decT (l : List UInt8) : VT := if doneOf (readO (some l)).2 = 0 then (readO (some l)).1 else zeroT
def decE (l : List UInt8) : Int := doneOf (readO (some l)).2
def DecR (l : List UInt8) (w : World) (e : Ending) (w' : World) : Prop :=
  ∃ v, e = .returned (.tuple #[v, .int .i64 (decE l)]) ∧ LV w' (NewB w.heap.size w') (decT l) v ∧ Below w.heap.size w w'
theorem results_cell_two {fn : Func} {p u : Tmp} (h : fn.results = #[.cell p 25, .tmp u]) (tmps : Array Value) (w : World) (g : Nat) (t : TypeId) (cs : Array Value) (fr : Nat × Nat)
    (hp : tmps.getD p undef = .pointer (some ⟨g, 0, none⟩)) (hg : w.heap[g]? = some (.cells cs t fr)) (hi : (Try.prog.info? 25).map (·.size) = some cs.size) :
    (results fn tmps).run Try.prog w = .ok (.tuple #[.agg cs, tmps.getD u undef]) w := by
  rw [results_cell_tmp h, hp]
  have e : (asAddr (.pointer (some ⟨g, 0, none⟩))).run Try.prog w = .ok ⟨g, 0, none⟩ w := by simp [asAddr]
  rw [e]
  simp only [Result.andThen]
  rw [run_loadVar_row w g t 25 cs fr _ hg Try.underlying25 rfl hi]
theorem dec_end {l : List UInt8} {w w4 : World} {S : Nat → Prop} {t : VT} {c0 c1 c2 c3 c4 : Value} {x : Int} (hx : x = decE l ∧ t = decT l) (hb : Below w.heap.size w w4) (hv : LV w4 S t (.agg #[c0, c1, c2, c3, c4])) (hS : ∀ b, S b → w.heap.size + 1 ≤ b ∧ b < w4.heap.size) :
    DecR l w (.returned (.tuple #[.agg #[c0, c1, c2, c3, c4], .int .i64 x])) (five w4 w.heap.size 0 c0 c1 c2 c3 c4) := by
  obtain ⟨rfl, rfl⟩ := hx
  have hr5 := five_rest w4 w.heap.size 0 c0 c1 c2 c3 c4
  have hsz := five_size w4 w.heap.size 0 c0 c1 c2 c3 c4
  refine ⟨_, rfl, ?_, ⟨hr5.1.trans hb.os, hr5.2.1.trans hb.tape, hr5.2.2.trans hb.output, by rw [hsz]; exact hb.size, fun b hk => ?_⟩⟩
  · refine (hv.keep (w' := _) fun b hb => five_other _ _ _ _ _ _ _ _ b (by have := hS b hb; omega)).imp fun b hb => ?_
    have := hS b hb
    exact ⟨by omega, by rw [hsz]; omega⟩
  · rw [five_other _ _ _ _ _ _ _ _ b (by omega)]; exact hb.block b hk
theorem decE_zero {l : List UInt8} (h : 0 = doneOf (readO (some l)).2) : 0 = decE l ∧ (readO (some l)).1 = decT l := ⟨h, by unfold decT; rw [if_pos h.symm]⟩
theorem decE_not {l : List UInt8} (h : ¬ doneOf (readO (some l)).2 = 0) : doneOf (readO (some l)).2 = decE l ∧ zeroT = decT l := ⟨rfl, by unfold decT; rw [if_neg h]⟩
set_option maxHeartbeats 4000000 in
set_option maxRecDepth 100000 in
theorem cdecode_any (v : Value) (l : List UInt8) (w : World) (hr : Rd w w.heap.size v l) (hl : l.length ≤ 9223372036854775807) : Calls Try.prog 12 #[v] w (DecR l w) := by
  obtain ⟨A, cap, hv, -⟩ := id hr
  have hb0 : Below w.heap.size w (w.alloc (.cells #[.int .i64 0, .int .i64 0, .string ⟨#[]⟩, .slice none 0 0, .slice none 0 0] 25)) := (Below.refl _ _).alloc (Nat.le_refl _) _
  have hx0 : Box (w.alloc (.cells #[.int .i64 0, .int .i64 0, .string ⟨#[]⟩, .slice none 0 0, .slice none 0 0] 25)) w.heap.size _ _ _ _ _ := Box.new _ _ _ _ _
  have hr0 := hr.keep hb0
  rw [hv] at hr0
  have hc := hr0.conv (Nat.le_refl _) cap
  rw [List.take_length] at hc
  rw [← hv] at hc
  have HC := Lib.hid hc
  have HB0 := Lib.hid hb0
  have HX0 := Lib.hid hx0
  have hz0 : (w.alloc (.cells #[.int .i64 0, .int .i64 0, .string ⟨#[]⟩, .slice none 0 0, .slice none 0 0] 25)).heap.size = w.heap.size + 1 := by simp
  clear hb0 hr0 hc hr hv hx0
  go_enter Try.func12, Try.ntmps12
  go_wp2_with fail
  refine (from_any v _ _ HC.out).mono ?_
  rintro e w1 ⟨rfl, hs1, hb1⟩
  rw [hz0] at hs1 hb1 ⊢
  have hsl : SrcL w1 (w.heap.size + 1) (some l) := ⟨hs1, hl⟩
  have hbb := HB0.out.trans (hb1.mono (by omega))
  have hx1 := HX0.out.below hb1 (by omega)
  have HS1 := Lib.hid hsl
  have HB1 := Lib.hid hbb
  have HX1 := Lib.hid hx1
  clear hs1 hb1 hsl hbb hx1 HC HB0 HX0 hz0
  go_wp2_with fail
  refine (cread_any _ _ _ HS1.out).mono ?_
  rintro e w2 ⟨u, rfl, hs2, ho2, hv2⟩
  have hz1 := HS1.out.lt
  have hb2 : Below w.heap.size w w2 := HB1.out.trans ⟨ho2.os, ho2.tape, ho2.output, ho2.size, fun k hk => ho2.block k (by omega) (by rintro ⟨⟩; omega)⟩
  have hx2 := box_only HX1.out ho2 (by omega)
  have hv3 := hv2.imp (S' := fun b => w.heap.size + 1 ≤ b ∧ b < w2.heap.size) fun b hb => ⟨by have := hb.1; omega, hb.2⟩
  obtain ⟨t, ht⟩ : ∃ t, t = (readO (some l)).1 := ⟨_, rfl⟩
  obtain ⟨st2, hst⟩ : ∃ st2, st2 = (readO (some l)).2 := ⟨_, rfl⟩
  rw [← ht] at hv3
  rw [← hst] at hs2
  obtain ⟨T3, d3, T4, d4, rfl, -⟩ := hv3.shape
  have hz2 : w.heap.size + 1 < w2.heap.size := hs2.lt
  have hb3 := hb2.alloc (by omega) (.cells #[.int .i64 t.kind, .int .i64 t.num, .string t.text, .slice T3 t.items.length d3, .slice T4 t.names.length d4] 25)
  have hs3 := hs2.alloc (.cells #[.int .i64 t.kind, .int .i64 t.num, .string t.text, .slice T3 t.items.length d3, .slice T4 t.names.length d4] 25)
  have hx3 := hx2.alloc (.cells #[.int .i64 t.kind, .int .i64 t.num, .string t.text, .slice T3 t.items.length d3, .slice T4 t.names.length d4] 25)
  have hv4 : LV (w2.alloc (.cells #[.int .i64 t.kind, .int .i64 t.num, .string t.text, .slice T3 t.items.length d3, .slice T4 t.names.length d4] 25)) (fun b => w.heap.size + 1 ≤ b ∧ b < w2.heap.size) t _ := hv3.keep fun b hb => Below.heap_alloc w2 _ b hb.2
  have hz4 : (w2.alloc (.cells #[.int .i64 t.kind, .int .i64 t.num, .string t.text, .slice T3 t.items.length d3, .slice T4 t.names.length d4] 25)).heap.size = w2.heap.size + 1 := by simp
  have HS3 := Lib.hid hs3
  have HB3 := Lib.hid hb3
  have HX3 := Lib.hid hx3
  have HV4 := Lib.hid hv4
  have HZ4 := Lib.hid hz4
  have HT := Lib.hid (And.intro ht hst)
  clear hb2 hx2 hv2 hv3 hs2 hb3 hs3 hx3 hv4 ho2 HS1 HB1 HX1 hz4 ht hst
  go_wp2_with fail
  refine (sdone_st _ _ _ HS3.out).mono ?_
  rintro e w3 ⟨rfl, rfl⟩
  obtain ⟨x, hx⟩ : ∃ x, x = doneOf st2 := ⟨_, rfl⟩
  rw [← hx]
  have HE := Lib.hid hx
  clear hx
  have rf : ∀ i, (w2.alloc (.cells #[.int .i64 t.kind, .int .i64 t.num, .string t.text, .slice T3 t.items.length d3, .slice T4 t.names.length d4] 25)).frozen? ⟨w.heap.size, i, none⟩ = false := fun i => HX3.out.free i
  have r0 := HX3.out.c0
  have r1 := HX3.out.c1
  have r2 := HX3.out.c2
  have r3 := HX3.out.c3
  have r4 := HX3.out.c4
  by_cases h0 : x = 0
  · subst h0
    go_wp2_with fail
    refine bodyPost_ret (results_cell_two rfl _ _ w.heap.size 25 _ (0, 0) rfl (five_box HX3.out) (by kernel_rfl)) rfl ?_
    obtain ⟨rfl, rfl⟩ := HT.out
    exact dec_end (decE_zero HE.out) HB3.out HV4.out (fun b hb => by have := HZ4.out; have := hb.1; have := hb.2; omega)
  · have h1 : (x == 0) = false := beq_false_of_ne h0
    have h2 : (x != 0) = true := by simp [h0]
    go_wp2_with fail
    refine bodyPost_ret (results_cell_two rfl _ _ w.heap.size 25 _ (0, 0) rfl (five_box HX3.out) (by kernel_rfl)) rfl ?_
    obtain ⟨rfl, rfl⟩ := HT.out
    have h := HE.out
    subst h
    exact dec_end (decE_not h0) HB3.out (zero_lv _ (fun _ => False)) (fun _ h => h.elim)
end Go.Proofs.Ytopmeoonepkodaa
