/- What is said of no images is as the document says, and what must come of every program comes. No conditions. -/
import Derived.Test.YtdggeokpnaopiaaKImK
import Derived.Test.YtdggeokpnaopiaaKOpenI
import Derived.SizedLaws
import Derived.ProofKit
import Derived.OpenShut
import Derived.ShutString
import Derived.ChangeOld
import Derived.Below
namespace Go.Proofs.Ytdggeokpnaopiaa.INobody
set_option linter.unusedVariables false
set_option linter.unusedSimpArgs false
open Go.ChangeShapes Go.WideShapes Go.ChangeAt Go.RowKit Go.Joins
set_option linter.unusedVariables false

theorem own : ownKnob Try.prog.godebug = none := by kernel_rfl
theorem laidOut : laidOutB Try.prog = true := by kernel_rfl

set_option maxHeartbeats 4000000 in
set_option maxRecDepth 100000 in
theorem read_nil (w : World) : Calls Try.prog 18 #[.pointer none] w fun e w' => e = .returned (.pointer none) ∧ Below w.heap.size w w' := by
  have hi1 := zero_im w
  have hb1 : Below w.heap.size w (w.alloc (.cells Try.zeroCells66 66)) := (Below.refl _ _).alloc (Nat.le_refl _) _
  have HI1 := Lib.hid hi1
  have HB1 := Lib.hid hb1
  clear hi1 hb1
  go_enter Try.func18, Try.ntmps18
  go_wp2_with fail
  refine (scount_nil 64 _ (by omega)).mono ?_
  rintro e w2 ⟨rfl, hb2⟩
  have hi2 := HI1.out.below (fun _ h => h.elim) hb2
  have y0 := hi2.c0
  have y1 := hi2.c1
  have y2 := hi2.c2
  have yf := hi2.free
  have HB2 := Lib.hid (HB1.out.trans (hb2.mono HB1.out.size))
  have hi3 := hi2.setKeep (fun h => h) 0
  have hb3 : Below w.heap.size w (w2.setCell ⟨w.heap.size, 0, none⟩ (.int .i64 0)) := HB2.out.setCell (p := ⟨w.heap.size, 0, none⟩) (Nat.le_refl _) _
  obtain ⟨w3, hw3⟩ : ∃ W, W = w2.setCell ⟨w.heap.size, 0, none⟩ (.int .i64 0) := ⟨_, rfl⟩
  rw [← hw3] at hi3 hb3
  have HW3 := Lib.hid hw3
  have HI3 := Lib.hid hi3
  have HB3 := Lib.hid hb3
  clear hb2 hi2 hi3 hb3 hw3 HI1 HB1 HB2
  go_wp2_with fail
  rw [← HW3.out]
  refine (scount_nil 1099511627776 _ (by omega)).mono ?_
  rintro e w4 ⟨rfl, hb4⟩
  have hi4 := HI3.out.below (fun _ h => h.elim) hb4
  clear y0 y1 y2 yf
  have y0 := hi4.c0
  have y1 := hi4.c1
  have y2 := hi4.c2
  have yf := hi4.free
  have HB4 := Lib.hid (HB3.out.trans (hb4.mono HB3.out.size))
  have hi5 := hi4.setBase (fun h => h) 0
  have hb5 : Below w.heap.size w (w4.setCell ⟨w.heap.size, 1, none⟩ (.int .i64 0)) := HB4.out.setCell (p := ⟨w.heap.size, 1, none⟩) (Nat.le_refl _) _
  obtain ⟨w5, hw5⟩ : ∃ W, W = w4.setCell ⟨w.heap.size, 1, none⟩ (.int .i64 0) := ⟨_, rfl⟩
  rw [← hw5] at hi5 hb5
  have HW5 := Lib.hid hw5
  have HI5 := Lib.hid hi5
  have HB5 := Lib.hid hb5
  clear hb4 hi4 hi5 hb5 hw5 HI3 HB3 HB4 HW3
  go_wp2_with fail
  rw [← HW5.out]
  refine (scount_nil 1099511627776 _ (by omega)).mono ?_
  rintro e w6 ⟨rfl, hb6⟩
  have hi6 := HI5.out.below (fun _ h => h.elim) hb6
  clear y0 y1 y2 yf
  have y0 := hi6.c0
  have y1 := hi6.c1
  have y2 := hi6.c2
  have yf := hi6.free
  have HB6 := Lib.hid (HB5.out.trans (hb6.mono HB5.out.size))
  have hi7 := hi6.setTop (fun h => h) 0
  have HI7 : Hid (ImAt (w6.setCell ⟨w.heap.size, 2, none⟩ (.int .i64 0)).drew (fun _ => False) w.heap.size ⟨0, 0, 0, noRing⟩) := Lib.hid (hi7.none_keep rfl)
  have HB7 : Hid (Below w.heap.size w (w6.setCell ⟨w.heap.size, 2, none⟩ (.int .i64 0)).drew) := Lib.hid (HB6.out.setCell (p := ⟨w.heap.size, 2, none⟩) (Nat.le_refl _) _).drew
  clear hb6 hi6 hi7 HI5 HB5 HB6 HW5
  go_wp2_with go_region
  generalize hw7 : (w6.setCell ⟨w.heap.size, 2, none⟩ (.int .i64 0)).drew = w7 at *
  clear y0 y1 y2 yf hw7
  have y2 := HI7.out.c2
  go_loopg [] 0 (fun n wr => wr = w7)
  case atStart => rfl
  case round =>
    subst hrel
    go_wp2_with fail
    refine (bad_nil _).mono ?_
    rintro e w8 ⟨rfl, rfl⟩
    go_wp2_with fail
    go_ret
    exact ⟨rfl, HB7.out⟩

set_option maxHeartbeats 4000000 in
set_option maxRecDepth 100000 in
theorem walk (o : OpI) (cs : Array Value) (i : Int) (w : World) (ho : OpIL w (fun b => b < w.heap.size) o cs) : Calls Try.prog 7 #[.agg cs, .int .i64 i] w fun e w' => e = .returned (.bool true) ∧ Below w.heap.size w w' := by
  obtain ⟨a, b, c, d, e, rfl, hv, -⟩ := ho
  obtain ⟨A0, c0, A0', c0', hsh, -⟩ := hv.shape
  simp only [Value.agg.injEq, Array.mk.injEq, List.cons.injEq, and_true] at hsh
  obtain ⟨rfl, rfl, rfl, rfl, rfl⟩ := hsh
  obtain ⟨u, hu⟩ : ∃ W, W = w.alloc (.cells #[.int .i64 o.kind, .int .i64 o.val.kind, .int .i64 o.val.num, .string o.val.text, .slice A0 o.val.items.length c0, .slice A0' o.val.names.length c0', .bool o.is] 38) := ⟨_, rfl⟩
  have hb : u.heap[w.heap.size]? = some (.cells #[.int .i64 o.kind, .int .i64 o.val.kind, .int .i64 o.val.num, .string o.val.text, .slice A0 o.val.items.length c0, .slice A0' o.val.names.length c0', .bool o.is] 38 (0, 0)) := by rw [hu]; exact heap_alloc_new w _
  have hbu : Below w.heap.size w u := by rw [hu]; exact (Below.refl _ _).alloc (Nat.le_refl _) _
  have hlt : w.heap.size < u.heap.size := (Array.getElem?_eq_some_iff.1 hb).1
  have HX : Hid (∀ W, Below u.heap.size u W → W.cell? ⟨w.heap.size, 1, none⟩ = some (.int .i64 o.val.kind) ∧ W.cell? ⟨w.heap.size, 2, none⟩ = some (.int .i64 o.val.num) ∧ W.cell? ⟨w.heap.size, 3, none⟩ = some (.string o.val.text) ∧ W.cell? ⟨w.heap.size, 4, none⟩ = some (.slice A0 o.val.items.length c0) ∧ W.cell? ⟨w.heap.size, 5, none⟩ = some (.slice A0' o.val.names.length c0') ∧ W.cell? ⟨w.heap.size, 6, none⟩ = some (.bool o.is)) := Lib.hid fun W hW => by
    have h := (hW.block _ hlt).trans hb
    exact ⟨Go.Joins.cell_of_block h 1, Go.Joins.cell_of_block h 2, Go.Joins.cell_of_block h 3, Go.Joins.cell_of_block h 4, Go.Joins.cell_of_block h 5, Go.Joins.cell_of_block h 6⟩
  have HV : Hid (LV u (fun b => b < w.heap.size) o.val _) := Lib.hid (hv.keep fun b hb => hbu.block b hb)
  have HBU := Lib.hid hbu
  have HU := Lib.hid hu
  have HLT := Lib.hid hlt
  clear hu hb hbu hlt hv
  go_enter Try.func7, Try.ntmps7
  go_wp2_with fail
  first | rw [← HU.out] | skip
  refine (iget_nil i u).mono ?_
  rintro e v1 ⟨g, rfl, hg, hb1⟩
  obtain ⟨A, c, A', c', hsg, -⟩ := hg.shape
  have hsg : g = .agg #[.int .i64 0, .int .i64 0, .string eS, .slice A 0 c, .slice A' 0 c'] := hsg
  subst hsg
  have hb2 := below_box (w := v1) (.cells #[.int .i64 0, .int .i64 0, .string eS, .slice A 0 c, .slice A' 0 c'] 36)
  have HY : Hid (Box (v1.alloc (.cells #[.int .i64 0, .int .i64 0, .string eS, .slice A 0 c, .slice A' 0 c'] 36)) v1.heap.size _ _ _ _ _) := Lib.hid (Box.new _ _ _ _ _)
  have HB2 : Hid (Below u.heap.size u (v1.alloc (.cells #[.int .i64 0, .int .i64 0, .string eS, .slice A 0 c, .slice A' 0 c'] 36))) := Lib.hid (hb1.trans (hb2.mono hb1.size))
  clear hg hb1 hb2
  go_wp2_with fail
  generalize hv2 : v1.alloc (.cells #[.int .i64 0, .int .i64 0, .string eS, .slice A 0 c, .slice A' 0 c'] 36) = v2 at *
  clear hv2
  refine (lives16_any v2).mono ?_
  rintro e v3 ⟨rfl, hb3⟩
  have HB3 := Lib.hid (HB2.out.trans (hb3.mono HB2.out.size))
  have hy3 := HY.out.call hb3
  obtain ⟨x1, x2, x3, x4, x5, x6⟩ := HX.out v3 HB3.out
  have hlv : LV v3 (fun b => b < w.heap.size) o.val _ := HV.out.keep fun b hb => HB3.out.block b (Nat.lt_trans hb HLT.out)
  have hS3 : ∀ b, b < w.heap.size → b < v3.heap.size := fun b hb => Nat.lt_of_lt_of_le hb (Nat.le_trans (Nat.le_of_lt HLT.out) HB3.out.size)
  have HN := Lib.hid (inote_nil o.is hS3 hlv)
  have HY3 := Lib.hid hy3
  clear hb3 HB2 HY hlv hS3 hy3
  go_wp2_with fail
  refine HN.out.mono ?_
  rintro e v4 ⟨rfl, hb4⟩
  have HB4 := Lib.hid (HB3.out.trans (hb4.mono HB3.out.size))
  have y0 := (HY3.out.call hb4).c0
  clear x1 x2 x3 x4 x5 x6 hb4 HB3 HY3 HN
  go_wp2_with fail
  refine (itop_nil v4).mono ?_
  rintro e v5 ⟨rfl, rfl⟩
  go_wp2_with fail
  refine (icode_nil v5).mono ?_
  rintro e v6 ⟨rfl, rfl⟩
  go_wp2_with fail
  refine (ifork_nil v6).mono ?_
  rintro e v7 ⟨rfl, rfl⟩
  go_wp2_with fail
  refine (read_nil v7).mono ?_
  rintro e v8 ⟨rfl, hb8⟩
  have HB8 := Lib.hid (HB4.out.trans (hb8.mono HB4.out.size))
  clear hb8 y0
  go_wp2_with fail
  go_ret
  exact ⟨rfl, HBU.out.trans (HB8.out.mono HBU.out.size)⟩

set_option maxRecDepth 100000 in
theorem lifted (os : Os) (started : os.Started) (H : Type) (enc : TypeId × Value → H) :
    ReturnsInHanded {} Try.checked os 7 .any (Rows.imageNobodySpec.pre6 enc Try.prog Try.f7 Rows.imageNobodyRow.domain false) (Rows.imageNobodySpec.post enc Try.prog Try.f7 false true false false) := by
  refine returnsInHanded_of_change_sized (C := Try.checked) own started (by kernel_rfl) Try.func7
    (ChangeSpec.witness6 (enc := enc) (C := Try.checked) false ⟨#[], #[.agg #[.int .i64 0, .int .i64 0, .int .i64 0, .string ByteArray.empty, .slice none 0 0, .slice none 0 0, .bool false], .int .i64 0], []⟩ 8 (by kernel_rfl) (by kernel_rfl) (by kernel_rfl) (by kernel_rfl)) ?_
  intro W base args ds gs before hval0 hW hcnd hsz0 _
  have hval : ∀ (j : Nat) t v, Try.f7.params[j]? = some t → args[j]? = some v → Value.okWide Try.prog W .any base t v := hval0
  have hsz : (DataW.weightsEach Try.prog (Try.f7.params.toList ++ Rows.imageNobodySpec.plain.varTypes Try.prog) (ds ++ gs)).all (· ≤ reachBytes) = true := hsz0
  have hW' := hW
  obtain ⟨p, q, hA0, hV, rfl, hfz, hnd⟩ := hW
  have hA : DataW.TrodAll enc Try.prog W 0 (fun _ => true) true Try.f7.params.toList args.toList ds p := hA0
  rw [Try.params7] at hA hval hsz
  obtain ⟨v0, v1, d0, d1, p0, p1, rfl, rfl, rfl, h0, h1⟩ := trodAll_two hA
  obtain ⟨rfl, rfl⟩ := trodVars_none hV
  obtain ⟨a0, rfl, -⟩ := okWide_struct Try.underlying38 (hval 0 38 v0 rfl rfl)
  have k0 := h0
  have lt0 : ∀ x ∈ p0, x.block < W.heap.size := by obtain ⟨m, hm⟩ := k0; exact DataW.trod_lt m _ _ _ hm
  have wt0 : ∀ n ∈ d0.weights Try.prog 38, n ≤ reachBytes := fun n hn => by have := List.all_eq_true.1 hsz n (DataW.weights_mem_each (j := 0) rfl rfl n hn); simpa using this
  obtain ⟨a1, rfl, rfl, rfl, wa1⟩ := open_int Try.underlying3 (hval 1 3 v1 rfl rfl) h1
  clear hA0 hval0
  obtain ⟨op0, hop0⟩ : ∃ o : OpI, OpIL W (fun b => b < W.heap.size) o a0 := by
    obtain ⟨m, hm⟩ := k0
    obtain ⟨o, h3⟩ := open_op16 hm wt0
    exact ⟨o, by simpa [Value.cells] using h3⟩
  have ha1 := in64_of_wf wa1
  refine (walk op0 a0 a1 W hop0).mono fun e W' ⟨he, bel⟩ => ?_
  subst he
  exact ⟨_, rfl, _, _, _, [], _, [], hW', trodAll_mk1 (shut_bool Try.underlying4 _), trodAll_mk2 (Below.trod laidOut (by kernel_rfl) (of_decide_eq_true (by kernel_rfl)) k0 bel lt0) (shut_int Try.underlying3 wa1), rfl, bel.frame _, fun h => by cases h⟩

/-- The statement. -/
theorem proved : Rows.ImageNobodySaid :=
  OpenClaim.holds_of_wide 7 Try.f7 rfl rfl rfl rfl rfl rfl rfl ⟨rfl, rfl, rfl, rfl, rfl⟩ rfl rfl rfl rfl rfl (by kernel_rfl) Try.func7 (by kernel_rfl)
    (of_decide_eq_true (by kernel_rfl)) (by unfold Func.isWrapper; first | (rw [if_pos (by decide +kernel)]; kernel_rfl) | (rw [if_neg (by decide +kernel)]; exact ⟨rfl, rfl⟩))
    (fun os started H enc _ => lifted os started H enc)

end Go.Proofs.Ytdggeokpnaopiaa.INobody
