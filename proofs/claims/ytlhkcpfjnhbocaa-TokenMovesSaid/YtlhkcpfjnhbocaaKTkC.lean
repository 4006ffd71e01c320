/- A token read by the program. -/
import Derived.Test.YtlhkcpfjnhbocaaKTkB
import Derived.Test.YtlhkcpfjnhbocaaKFrmG
namespace Go.Proofs.Ytlhkcpfjnhbocaa
set_option linter.unusedVariables false
set_option linter.unusedSimpArgs false
open Go.RowKit
set_option maxRecDepth 100000
theorem ba_toList (l : List UInt8) : (⟨l.toArray⟩ : ByteArray).toList = l := by rw [ByteArray.toList_eq]
theorem ba_beq (l m : List UInt8) : ((⟨l.toArray⟩ : ByteArray).toList == (⟨m.toArray⟩ : ByteArray).toList) = decide (l = m) := by
  rw [ba_toList, ba_toList]
  by_cases h : l = m
  · subst h; simp
  · rw [decide_eq_false h]
    exact beq_eq_false_iff_ne.2 h
set_option maxHeartbeats 4000000 in
theorem byequal_any (B B' : Nat) (vx vy : Value) (l m : List UInt8) (w : World) (hx : Rd w B vx l) (hy : Rd w B' vy m) : Calls Try.prog 45 #[vx, vy] w fun e w' => e = .returned (.bool (decide (l = m))) ∧ w = w' := by
  have hx1 := hx.strY
  have hy1 := hy.strY
  have he := ba_beq l m
  have HE := Lib.hid he
  obtain ⟨x, hx2⟩ : ∃ x : ByteArray, x = ⟨l.toArray⟩ := ⟨_, rfl⟩
  obtain ⟨y, hy2⟩ : ∃ y : ByteArray, y = ⟨m.toArray⟩ := ⟨_, rfl⟩
  rw [← hx2] at hx1 HE
  rw [← hy2] at hy1 HE
  clear hx hy hx2 hy2 he
  go_enter Try.func45, Try.ntmps45
  go_wp2_with fail
  go_ret
  have e := HE.out
  refine ⟨?_, rfl⟩
  rw [← e]
  rfl
/-- What bytes say, read as a token. -/
def rdK0 (l : List UInt8) : Nat × Option (List UInt8) := rdByte (some l)
def rdK1 (l : List UInt8) : Nat × Option (List UInt8) := rdCount 1099511627776 (rdK0 l).2
def rdK2 (l : List UInt8) : Nat × Option (List UInt8) := rdCount 1099511627776 (rdK1 l).2
def okTok (l : List UInt8) : Bool := mayTok (rdK0 l).1 (rdK1 l).1 (rdK2 l).1 && decide (codeT (rdK0 l).1 (rdK1 l).1 (rdK2 l).1 = l)
def decTok (l : List UInt8) : Value := if okTok l then .tuple #[tokV (rdK0 l).1 (rdK1 l).1 (rdK2 l).1, .int .i64 0] else .tuple #[tokV 0 0 0, .int .i64 180]
theorem results_cell_k {fn : Func} {p u : Tmp} (h : fn.results = #[.cell p 37, .tmp u]) (tmps : Array Value) (w : World) (g : Nat) (t : TypeId) (cs : Array Value) (fr : Nat × Nat)
    (hp : tmps.getD p undef = .pointer (some ⟨g, 0, none⟩)) (hg : w.heap[g]? = some (.cells cs t fr)) (hi : (Try.prog.info? 37).map (·.size) = some cs.size) :
    (results fn tmps).run Try.prog w = .ok (.tuple #[.agg cs, tmps.getD u undef]) w := by
  rw [results_cell_tmp h, hp]
  have e : (asAddr (.pointer (some ⟨g, 0, none⟩))).run Try.prog w = .ok ⟨g, 0, none⟩ w := by simp [asAddr]
  rw [e]
  simp only [Result.andThen]
  rw [run_loadVar_row w g t 37 cs fr _ hg Try.underlying37 rfl hi]
/-- Three cells that stand behind one another. -/
def three (w : World) (p : Nat) (k i t : Int) : World := ((w.setCell ⟨p, 0, none⟩ (.int .i64 k)).setCell ⟨p, 1, none⟩ (.int .i64 i)).setCell ⟨p, 2, none⟩ (.int .i64 t)
theorem three_box {w : World} {p : Nat} {k i t a b c : Int} (h : KBox w p a b c) : KBox (three w p k i t) p k i t := ((h.set0 k).set1 i).set2 t
theorem three_below {w w' : World} {p : Nat} {k i t : Int} {B : Nat} (h : Below B w w') (hp : B ≤ p) : Below B w (three w' p k i t) := ((h.setCell hp _).setCell hp _).setCell hp _
set_option maxHeartbeats 8000000 in
theorem tdec_any (v : Value) (l : List UInt8) (w : World) (hr : Rd w w.heap.size v l) (hl : l.length ≤ 9223372036854775807) :
    Calls Try.prog 23 #[v] w fun e w' => e = .returned (decTok l) ∧ Below w.heap.size w w' := by
  have hb0 : Below w.heap.size w (w.alloc (.cells #[.int .i64 0, .int .i64 0, .int .i64 0] 37)) := (Below.refl _ _).alloc (Nat.le_refl _) _
  have hx0 : KBox (w.alloc (.cells #[.int .i64 0, .int .i64 0, .int .i64 0] 37)) w.heap.size 0 0 0 := KBox.new w 0 0 0
  have HR := Lib.hid hr
  have HC := Lib.hid (hr.keep hb0).strY
  have HB0 := Lib.hid hb0
  have HX0 := Lib.hid hx0
  have hz0 : (w.alloc (.cells #[.int .i64 0, .int .i64 0, .int .i64 0] 37)).heap.size = w.heap.size + 1 := by simp
  clear hb0 hr hx0
  go_enter Try.func23, Try.ntmps23
  go_wp2_with fail
  refine (from_any v _ _ HC.out).mono ?_
  rintro e w1 ⟨rfl, hs1, hb1⟩
  rw [hz0] at hs1 hb1 ⊢
  have hsl : SrcL w1 (w.heap.size + 1) (some l) := ⟨hs1, hl⟩
  have HB1 := Lib.hid (HB0.out.trans (hb1.mono (by omega)))
  have HX1 := Lib.hid (HX0.out.keep hb1 (by omega))
  have HS1 := Lib.hid hsl
  have hz1 := hsl.lt
  clear hs1 hb1 hsl HC HB0 HX0 hz0
  go_wp2_with fail
  refine (sbyte_any _ _ _ HS1.out).mono ?_
  rintro e w2 ⟨rfl, hs2, ho2⟩
  obtain ⟨k, hk⟩ : ∃ k, k = (rdK0 l).1 := ⟨_, rfl⟩
  have hk' : (rdByte (some l)).1 = k := hk.symm
  have hs2' : SrcL w2 (w.heap.size + 1) (rdK0 l).2 := hs2
  rw [hk']
  have hb2 : Below w.heap.size w w2 := HB1.out.trans (ho2.below (by omega) (by omega))
  have hx2 := HX1.out.only ho2 (by omega)
  have hz2 := hs2'.lt
  obtain ⟨X, hX⟩ : ∃ X : Obj, X = .cells #[.int .i64 (k : Int), .int .i64 0, .int .i64 0] 37 := ⟨_, rfl⟩
  have hq3 : KBox (w2.alloc X) w2.heap.size k 0 0 := by rw [hX]; exact KBox.new w2 k 0 0
  have hx3 := hx2.alloc X
  have hs3 := hs2'.alloc X
  have hb3 := hb2.alloc (by omega) X
  rw [hX] at hq3 hx3 hs3 hb3
  have HQ3 := Lib.hid hq3
  have HX3 := Lib.hid hx3
  have HS3 := Lib.hid hs3
  have HB3 := Lib.hid hb3
  have HK := Lib.hid hk
  clear hs2 ho2 hs2' hb2 hx2 hX hq3 hx3 hs3 hb3 hk hk' HB1 HX1 HS1
  go_wp2_with fail
  refine (scount_any _ _ 1099511627776 _ HS3.out (by omega)).mono ?_
  rintro e w4 ⟨rfl, hs4, ho4⟩
  obtain ⟨i, hi⟩ : ∃ i, i = (rdK1 l).1 := ⟨_, rfl⟩
  have hi' : (rdCount 1099511627776 (rdK0 l).2).1 = i := hi.symm
  have hs4' : SrcL w4 (w.heap.size + 1) (rdK1 l).2 := hs4
  rw [hi']
  have hb4 : Below w.heap.size w w4 := HB3.out.trans (ho4.below (by have := HB3.out.size; omega) (by omega))
  have hx4 := HX3.out.only ho4 (by omega)
  have hq4 := HQ3.out.only ho4 (by omega)
  obtain ⟨w5, hw5⟩ : ∃ W, W = w4.setCell ⟨w2.heap.size, 1, none⟩ (.int .i64 (i : Int)) := ⟨_, rfl⟩
  have hq5 := hq4.set1 (i : Int)
  have hx5 := hx4.other w2.heap.size 1 (.int .i64 (i : Int)) (by omega)
  have hs5 := hs4'.far (p := ⟨w2.heap.size, 1, none⟩) (by show w.heap.size + 1 ≠ w2.heap.size; omega) (.int .i64 (i : Int))
  have hb5 := hb4.setCell (p := ⟨w2.heap.size, 1, none⟩) (by show w.heap.size ≤ w2.heap.size; omega) (.int .i64 (i : Int))
  have q4 := hq4.g1
  have q4f := fun j => hq4.free j
  rw [← hw5] at hq5 hx5 hs5 hb5
  have HW5 := Lib.hid hw5
  have HQ5 := Lib.hid hq5
  have HX5 := Lib.hid hx5
  have HS5 := Lib.hid hs5
  have HB5 := Lib.hid hb5
  have HI := Lib.hid hi
  clear hs4 ho4 hs4' hb4 hx4 hq4 hw5 hq5 hx5 hs5 hb5 hi hi' HQ3 HX3 HS3 HB3
  go_wp2_with fail
  rw [← HW5.out]
  clear HW5 q4 q4f
  refine (scount_any _ _ 1099511627776 _ HS5.out (by omega)).mono ?_
  rintro e w6 ⟨rfl, hs6, ho6⟩
  obtain ⟨t, ht⟩ : ∃ t, t = (rdK2 l).1 := ⟨_, rfl⟩
  have ht' : (rdCount 1099511627776 (rdK1 l).2).1 = t := ht.symm
  rw [ht']
  have hb6 : Below w.heap.size w w6 := HB5.out.trans (ho6.below HB5.out.size (by omega))
  have hx6 := HX5.out.only ho6 (by omega)
  have hq6 := HQ5.out.only ho6 (by omega)
  obtain ⟨w7, hw7⟩ : ∃ W, W = w6.setCell ⟨w2.heap.size, 2, none⟩ (.int .i64 (t : Int)) := ⟨_, rfl⟩
  have hq7 := hq6.set2 (t : Int)
  have hx7 := hx6.other w2.heap.size 2 (.int .i64 (t : Int)) (by omega)
  have hb7 := hb6.setCell (p := ⟨w2.heap.size, 2, none⟩) (by show w.heap.size ≤ w2.heap.size; omega) (.int .i64 (t : Int))
  have q6 := hq6.g2
  have q6f := fun j => hq6.free j
  rw [← hw7] at hq7 hx7 hb7
  have q70 := hq7.g0
  have q71 := hq7.g1
  have q72 := hq7.g2
  have HW7 := Lib.hid hw7
  have HQ7 := Lib.hid hq7
  have HX7 := Lib.hid hx7
  have HB7 := Lib.hid hb7
  have HT := Lib.hid ht
  clear hs6 ho6 hb6 hx6 hq6 hw7 hq7 hx7 hb7 ht ht' HQ5 HX5 HS5 HB5
  by_cases hm : mayTok k i t = true
  · have HE := Lib.hid (tenc_good k i t w7 hm)
    have HM := Lib.hid hm
    clear hm
    unfold tokV at HE
    rw [HW7.out] at q70 q71 q72 HE
    go_wp2_with fail
    refine HE.out.mono ?_
    rw [← HW7.out]
    rintro e w8 ⟨v8, rfl, hv8, hb8⟩
    have hz7 := HB7.out.size
    have hx8 := HX7.out.keep hb8 (by have := HX7.out.lt; omega)
    have hq8 := HQ7.out.keep hb8 (by have := HQ7.out.lt; omega)
    have hb9 := HB7.out.trans (hb8.mono hz7)
    have hr8 := HR.out.keep hb9
    have HEQ := Lib.hid (byequal_any _ _ _ _ _ _ w8 hv8.rdY hr8)
    have c0 := hx8.g0
    have c1 := hx8.g1
    have c2 := hx8.g2
    have cf := fun j => hx8.free j
    have d0 := hq8.g0
    have d1 := hq8.g1
    have d2 := hq8.g2
    have HX8 := Lib.hid hx8
    have HB9 := Lib.hid hb9
    have h00 : ((0 : Int) != 0) = false := rfl
    clear HE HW7 q6 q6f q70 q71 q72 hz7 hx8 hq8 hb8 hb9 hr8 hv8 HR
    by_cases hc : codeT k i t = l
    · have hck : okTok l = true := by unfold okTok; rw [← HK.out, ← HI.out, ← HT.out, HM.out, decide_eq_true hc]; rfl
      have HCK := Lib.hid hck
      rw [decide_eq_true hc] at HEQ
      clear hck hc
      go_wp2_with fail
      refine HEQ.out.mono ?_
      rintro e w' ⟨rfl, rfl⟩
      go_wp2_with fail
      refine bodyPost_ret (results_cell_k rfl _ _ w.heap.size 37 _ (0, 0) rfl (three_box HX8.out) (by kernel_rfl)) rfl ?_
      refine ⟨?_, three_below HB9.out (Nat.le_refl _)⟩
      unfold decTok
      rw [HCK.out, ← HK.out, ← HI.out, ← HT.out]
      rfl
    · have hck : okTok l = false := by unfold okTok; rw [← HK.out, ← HI.out, ← HT.out, HM.out, decide_eq_false hc]; rfl
      have HCK := Lib.hid hck
      rw [decide_eq_false hc] at HEQ
      clear hck hc
      go_wp2_with fail
      refine HEQ.out.mono ?_
      rintro e w' ⟨rfl, rfl⟩
      go_wp2_with fail
      refine bodyPost_ret (results_cell_k rfl _ _ w.heap.size 37 _ (0, 0) rfl (three_box HX8.out) (by kernel_rfl)) rfl ?_
      refine ⟨?_, three_below HB9.out (Nat.le_refl _)⟩
      unfold decTok
      rw [HCK.out]
      rfl
  · have hm' : mayTok k i t = false := by simpa using hm
    have hck : okTok l = false := by unfold okTok; rw [← HK.out, ← HI.out, ← HT.out, hm']; rfl
    have HE := Lib.hid (tenc_bad k i t w7 hm')
    have HCK := Lib.hid hck
    clear hm hm' hck
    unfold tokV at HE
    rw [HW7.out] at q70 q71 q72 HE
    go_wp2_with fail
    refine HE.out.mono ?_
    rw [← HW7.out]
    rintro e w8 ⟨rfl, hb8⟩
    have hz7 := HB7.out.size
    have hx8 := HX7.out.keep hb8 (by have := HX7.out.lt; omega)
    have hb9 := HB7.out.trans (hb8.mono hz7)
    have c0 := hx8.g0
    have c1 := hx8.g1
    have c2 := hx8.g2
    have cf := fun j => hx8.free j
    have HX8 := Lib.hid hx8
    have HB9 := Lib.hid hb9
    have h180 : ((180 : Int) != 0) = true := rfl
    clear HE HW7 q6 q6f q70 q71 q72 hz7 hx8 hb8 hb9 HR
    go_wp2_with fail
    refine bodyPost_ret (results_cell_k rfl _ _ w.heap.size 37 _ (0, 0) rfl (three_box HX8.out) (by kernel_rfl)) rfl ?_
    refine ⟨?_, three_below HB9.out (Nat.le_refl _)⟩
    unfold decTok
    rw [HCK.out]
    rfl
end Go.Proofs.Ytlhkcpfjnhbocaa
