/- What must come of every program at the second layer, comes. -/
import Derived.Test.YteakkbgfkcknlaaValD
import Derived.Test.YteakkbgfkcknlaaLex
import Derived.Lib.SlBytesConst
namespace Go.Proofs.Yteakkbgfkcknlaa
open Go.RowKit

/-- The document that is looked at. -/
theorem below_predrew_r (w : World) : Below w.heap.size w w.drew := (Below.refl _ _).drew
def dD : VT := .mk 7 0 emp [.mk 3 5 emp [] []] [⟨#[97]⟩]
def nullT : VT := .mk 1 0 emp [] []
def zeroT : VT := .mk 0 0 emp [] []
def arrT : VT := .mk 6 0 emp [] []
theorem d_may : mayT dD = true := by kernel_rfl
theorem d_check : checkT dD = 0 := by
  have h1 : mayT dD = true := d_may
  have h2 : depthT dD = 2 := by kernel_rfl
  have h3 : wrap64 (sizeT dD) = 6 := by
    have : sizeT dD = 6 := by kernel_rfl
    rw [this]; unfold wrap64; omega
  unfold checkT
  rw [if_pos h1, h2, h3]; rfl
theorem d_depth : (if mayT dD then (depthT dD : Int) else 0) = 2 := by
  have h2 : depthT dD = 2 := by kernel_rfl
  rw [if_pos d_may, h2]; rfl
theorem d_size : (if mayT dD then wrap64 (sizeT dD) else 0) = 6 := by
  have h3 : sizeT dD = 6 := by kernel_rfl
  rw [if_pos d_may, h3]; unfold wrap64; omega
theorem m_1 : mayT (.mk 3 1 emp [] []) = true := by kernel_rfl
theorem m_2 : mayT (.mk 3 2 emp [] []) = true := by kernel_rfl
theorem m_n : mayT nullT = true := by kernel_rfl
theorem m_a : mayT arrT = true := by kernel_rfl
theorem c_12 : cmpT (.mk 3 1 emp [] []) (.mk 3 2 emp [] []) = -1 := by kernel_rfl
theorem c_null : cmpT dD nullT = 1 := by kernel_rfl
theorem c_clone : cmpT dD dD = 0 := by kernel_rfl
theorem c_arr : cmpT dD arrT = 1 := by kernel_rfl
theorem d_12 : cmpV (.mk 3 1 emp [] []) (.mk 3 2 emp [] []) = -1 := by unfold cmpV; rw [if_pos ⟨m_1, m_2⟩, c_12]
theorem d_null : cmpV dD nullT = 1 := by unfold cmpV; rw [if_pos ⟨d_may, m_n⟩, c_null]
theorem d_clone : cmpV dD dD = 0 := by unfold cmpV; rw [if_pos ⟨d_may, d_may⟩, c_clone]
theorem d_arr : cmpV dD arrT = 1 := by unfold cmpV; rw [if_pos ⟨d_may, m_a⟩, c_arr]
theorem d_zero : checkT zeroT = 20 := by
  have h2 : mayT zeroT = false := by kernel_rfl
  unfold checkT; rw [h2]; rfl
theorem n_a : nameB (⟨#[97]⟩ : ByteArray).data.toList = true := by kernel_rfl
theorem n_da : nameB (⟨#[36, 97]⟩ : ByteArray).data.toList = false := by kernel_rfl
theorem n_ab : nameB (⟨#[97, 46, 98]⟩ : ByteArray).data.toList = false := by kernel_rfl
theorem dep_leaf (k i : Int) (s : ByteArray) (ns : List ByteArray) : depthT (.mk k i s [] ns) ≤ 4611686018427387903 := by rw [depthT_mk]; unfold depthL; omega
theorem dep_d : depthT dD ≤ 4611686018427387903 := by
  have : depthT dD = 2 := by kernel_rfl
  rw [this]; decide
/-- Everything that is there. -/
def All (w : World) : Nat → Prop := fun b => b < w.heap.size
theorem all_sub (w : World) : ∀ b, All w b → b < w.heap.size := fun _ h => h
theorem LV.all {w : World} {S : Nat → Prop} {t : VT} {v : Value} (h : LV w S t v) (hS : ∀ b, S b → b < w.heap.size) : LV w (All w) t v := h.imp hS
theorem leaf_all (w : World) (k i : Int) (hk : Rng k) (hi : Rng i) (s : ByteArray) (hs : s.size ≤ 140737488351232) : LV w (All w) (.mk k i s [] []) (.agg #[.int .i64 k, .int .i64 i, .string s, .slice none 0 0, .slice none 0 0]) := leaf_lv w _ k i s hk hi hs

theorem field1 (a b c d e : Value) (w : World) : (Instr.field 49 (.agg #[a, b, c, d, e]) 1).run Try.prog w = .ok b w := by kernel_rfl
theorem field2 (a b c d e : Value) (w : World) : (Instr.field 49 (.agg #[a, b, c, d, e]) 2).run Try.prog w = .ok c w := by kernel_rfl
theorem cvmark (w : World) (C : Array Value) (n c : Nat) : (convert 22 22 (.slice (some ⟨w.heap.size, 0, none⟩) n c)).run Try.prog (w.alloc (.cells C 5)) = .ok (.slice (some ⟨w.heap.size, 0, none⟩) n c) (w.alloc (.cells C 5 (C.size, C.size + 1))) :=
  Lib.run_convert_bytes_const (P := Try.prog) w 22 5 C n c Try.underlying22 Try.underlying5
theorem cv121 (v : World) : ∀ u, Below (v.alloc (.cells #[.int .u8 121] 5 (1, 2))).heap.size (v.alloc (.cells #[.int .u8 121] 5 (1, 2))) u → (convert 22 9 (.slice (some ⟨v.heap.size, 0, none⟩) 1 1)).run Try.prog u = .ok (.string ⟨#[121]⟩) u := fun u hb => by
  rw [run_convert_bytes_arg u 22 5 Try.underlying22 Try.underlying5 v.heap.size 0 1 1 [121] (by simp) ?_ 9 Try.underlying9]
  · rfl
  · intro j hj
    obtain rfl : j = 0 := by simp at hj; exact hj
    rw [hb.cell (p := ⟨v.heap.size, 0 + 0, none⟩) (by simp)]
    exact Go.Joins.cell_of_block (heap_alloc_new v _) 0
theorem marked {B : Nat} {v : World} (h : B ≤ v.heap.size) (o o' : Obj) : Below B (v.alloc o) (v.alloc o') := ⟨rfl, rfl, rfl, by simp, fun b hb => by
  have := ((below_box (w := v) o').mono h).block b hb
  exact this.trans (((below_box (w := v) o).mono h).block b hb).symm⟩
/-- The document's variable: it lies in a block of its own, and what it reads as lies there still. -/
structure St (w : World) (B : Nat) (S : Nat → Prop) (g : Nat) (t : VT) (a b c d e : Value) (u : World) : Prop where
  n : B ≤ u.heap.size
  lt : g < B
  x : Box u g a b c d e
  v : LV u S t (.agg #[a, b, c, d, e])
  s : ∀ b, S b → b < u.heap.size
  h : Below w.heap.size w u
theorem St.call {w u u' : World} {B : Nat} {S : Nat → Prop} {g : Nat} {t : VT} {a b c d e : Value} (h : St w B S g t a b c d e u) (hb : Below u.heap.size u u') : St w B S g t a b c d e u' :=
  ⟨Nat.le_trans h.n hb.size, h.lt, h.x.call hb, h.v.below h.s hb, sub_below h.s hb, toStart h.h hb⟩
section
variable {w u : World} {B : Nat} {S : Nat → Prop} {g : Nat} {t : VT} {a b c d e : Value}
theorem St.all (h : St w B S g t a b c d e u) : LV u (All u) t (.agg #[a, b, c, d, e]) := h.v.all h.s
theorem rb2 {e : Ending} {x y : Bool} (h : e = .returned (.bool x)) (hxy : x = y) : e = .returned (.bool y) := by rw [h, hxy]
theorem rn2 {e : Ending} {x y : Int} (h : e = .returned (.int .i64 x)) (hxy : x = y) : e = .returned (.int .i64 y) := by rw [h, hxy]
theorem l_may (h : St w B S g dD a b c d e u) : Calls Try.prog 40 #[.agg #[a, b, c, d, e]] u fun x u' => x = .returned (.bool true) ∧ Below u.heap.size u u' :=
  (may_any S dD _ u h.s h.v dep_d).mono fun _ _ h' => ⟨rb2 h'.1 d_may, h'.2⟩
theorem l_check (h : St w B S g dD a b c d e u) : Calls Try.prog 41 #[.agg #[a, b, c, d, e]] u fun x u' => x = .returned (.int .i64 0) ∧ Below u.heap.size u u' :=
  (check_any S dD _ u h.s h.v dep_d).mono fun _ _ h' => ⟨rn2 h'.1 d_check, h'.2⟩
theorem l_depth (h : St w B S g dD a b c d e u) : Calls Try.prog 43 #[.agg #[a, b, c, d, e]] u fun x u' => x = .returned (.int .i64 2) ∧ Below u.heap.size u u' :=
  (depthV_any S dD _ u h.s h.v dep_d).mono fun _ _ h' => ⟨rn2 h'.1 d_depth, h'.2⟩
theorem l_size (h : St w B S g dD a b c d e u) : Calls Try.prog 44 #[.agg #[a, b, c, d, e]] u fun x u' => x = .returned (.int .i64 6) ∧ Below u.heap.size u u' :=
  (sizeV_any S dD _ u h.s h.v dep_d).mono fun _ _ h' => ⟨rn2 h'.1 d_size, h'.2⟩
theorem l_12 (u : World) : Calls Try.prog 49 #[.agg #[.int .i64 3, .int .i64 1, .string emp, .slice none 0 0, .slice none 0 0], .agg #[.int .i64 3, .int .i64 2, .string emp, .slice none 0 0, .slice none 0 0]] u fun x u' => x = .returned (.int .i64 (-1)) ∧ Below u.heap.size u u' :=
  (compare_any (All u) (.mk 3 1 emp [] []) (.mk 3 2 emp [] []) _ _ u (all_sub u) (leaf_all u 3 1 (by unfold Rng; omega) (by unfold Rng; omega) emp (by decide)) (leaf_all u 3 2 (by unfold Rng; omega) (by unfold Rng; omega) emp (by decide)) (dep_leaf _ _ _ _) (dep_leaf _ _ _ _)).mono fun _ _ h' => ⟨rn2 h'.1 d_12, h'.2⟩
theorem l_null (h : St w B S g dD a b c d e u) : Calls Try.prog 49 #[.agg #[a, b, c, d, e], .agg #[.int .i64 1, .int .i64 0, .string emp, .slice none 0 0, .slice none 0 0]] u fun x u' => x = .returned (.int .i64 1) ∧ Below u.heap.size u u' :=
  (compare_any (All u) dD nullT _ _ u (all_sub u) h.all (leaf_all u 1 0 (by unfold Rng; omega) (by unfold Rng; omega) emp (by decide)) dep_d (dep_leaf _ _ _ _)).mono fun _ _ h' => ⟨rn2 h'.1 d_null, h'.2⟩
theorem l_clone (h : St w B S g dD a b c d e u) : Calls Try.prog 46 #[.agg #[a, b, c, d, e]] u fun x u' => (∃ v', x = .returned v' ∧ LV u' (All u') dD v') ∧ Below u.heap.size u u' :=
  (clone_any S dD _ u h.s h.v).mono fun _ _ ⟨v', h1, h2, h3⟩ => ⟨⟨v', h1, h2.all fun _ hb => hb.2⟩, h3⟩
theorem l_same (h : St w B S g dD a b c d e u) (v' : Value) (hv : LV u (All u) dD v') : Calls Try.prog 51 #[.agg #[a, b, c, d, e], v'] u fun x u' => x = .returned (.bool true) ∧ Below u.heap.size u u' :=
  (same_any (All u) dD dD _ _ u (all_sub u) h.all hv dep_d dep_d).mono fun _ _ h' => ⟨rb2 h'.1 (by rw [d_clone]; rfl), h'.2⟩
theorem l_arr (u : World) : Calls Try.prog 52 #[.slice none 0 0] u fun x u' => (∃ v', x = .returned v' ∧ LV u' (All u') arrT v') ∧ Below u.heap.size u u' :=
  (array_any (All u) none 0 [] u (all_sub u) (fun h => absurd h (Nat.lt_irrefl 0)) (by decide)).mono fun _ _ ⟨v', h1, h2, h3⟩ => ⟨⟨v', h1, h2.all fun _ hb => hb.2⟩, h3⟩
theorem l_apart (h : St w B S g dD a b c d e u) (v' : Value) (hv : LV u (All u) arrT v') : Calls Try.prog 51 #[.agg #[a, b, c, d, e], v'] u fun x u' => x = .returned (.bool false) ∧ Below u.heap.size u u' :=
  (same_any (All u) dD arrT _ _ u (all_sub u) h.all hv dep_d (dep_leaf _ _ _ _)).mono fun _ _ h' => ⟨rb2 h'.1 (by rw [d_arr]; rfl), h'.2⟩
theorem l_zero (u : World) : Calls Try.prog 41 #[.agg #[.int .i64 0, .int .i64 0, .string emp, .slice none 0 0, .slice none 0 0]] u fun x u' => x = .returned (.int .i64 20) ∧ Below u.heap.size u u' :=
  (check_any (All u) zeroT _ u (all_sub u) (leaf_all u 0 0 (by unfold Rng; omega) (by unfold Rng; omega) emp (by decide)) (dep_leaf _ _ _ _)).mono fun _ _ h' => ⟨rn2 h'.1 d_zero, h'.2⟩
theorem l_name (s : ByteArray) (r : Bool) (hs : s.size ≤ 9223372036854775807) (hr : nameB s.data.toList = r) (u : World) : Calls Try.prog 47 #[.string s] u fun x u' => x = .returned (.bool r) ∧ u = u' :=
  (name_any s u hs).mono fun _ _ h' => ⟨rb2 h'.1 hr, h'.2⟩
end

set_option maxHeartbeats 4000000 in
set_option maxRecDepth 100000 in
theorem lives2_any (w : World) : Calls Try.prog 36 #[] w fun e w' => e = .returned (.bool true) ∧ Below w.heap.size w w' := by
  go_enter Try.func36, Try.ntmps36
  go_wp2_with fail
  refine (vint_any _ 5).mono ?_
  rintro e w1 ⟨rfl, hb1⟩
  have hstr : StrsAt w1 (All w1) (some ⟨w.heap.size, 0, none⟩) [⟨#[97]⟩] := fun _ => ⟨w.heap.size, 0, rfl, by have := hb1.size; simp at this; unfold All; omega, fun i hi => by
    obtain rfl : i = 0 := by simp at hi; exact hi
    refine ⟨by rw [hb1.cell (p := ⟨w.heap.size, 0 + 0, none⟩) (by simp)]; simp, ?_⟩
    show (⟨#[97]⟩ : ByteArray).size ≤ _
    decide⟩
  have HSTR := Lib.hid hstr
  have HW1 := Lib.hid (toStart (below_box _) hb1)
  clear hstr hb1
  obtain ⟨o, ho⟩ : ∃ o : Obj, o = .cells #[.int .i64 3, .int .i64 5, .string ⟨#[]⟩, .slice none 0 0, .slice none 0 0] 49 := ⟨_, rfl⟩
  have hbx : Box (w1.alloc o) w1.heap.size (.int .i64 3) (.int .i64 5) (.string ⟨#[]⟩) (.slice none 0 0) (.slice none 0 0) := by rw [ho]; exact Box.new _ _ _ _ _
  have hsub : ∀ b, All w1 b → b < (w1.alloc o).heap.size := sub_alloc (all_sub w1) o
  have hl : LVA (w1.alloc o) (All (w1.alloc o)) (some ⟨w1.heap.size, 0, none⟩) [.mk 3 5 emp [] []] := fun _ => ⟨w1.heap.size, 0, rfl, by unfold All; simp, by
    unfold LVs
    refine ⟨⟨_, _, _, _, _, hbx.c0, hbx.c1, hbx.c2, hbx.c3, hbx.c4, leaf_lv _ _ 3 5 emp (rngK (by decide) (by decide)) (by unfold Rng; omega) (by decide)⟩, by unfold LVs; trivial⟩⟩
  have hs2 : StrsAt (w1.alloc o) (All (w1.alloc o)) (some ⟨w.heap.size, 0, none⟩) [⟨#[97]⟩] := (HSTR.out.keep fun b hb => Below.heap_alloc w1 o b hb).imp fun b hb => by have := hb; unfold All at *; simp; omega
  have HD0 := Lib.hid (doc_any (All (w1.alloc o)) (some ⟨w.heap.size, 0, none⟩) 1 [⟨#[97]⟩] (some ⟨w1.heap.size, 0, none⟩) 1 [.mk 3 5 emp [] []] (w1.alloc o) (all_sub _) hl (by decide) hs2 (by decide))
  have HB1 := Lib.hid (HW1.out.trans ((below_box o).mono HW1.out.size))
  subst ho
  clear hbx hsub hl hs2 HSTR HW1
  go_wp2_with fail
  refine HD0.out.mono ?_
  rintro e w2 ⟨vd, rfl, hd, hb2⟩
  obtain ⟨A, c, A', c', rfl, -⟩ := hd.shape
  simp only [VT.kind, VT.num, VT.text, VT.items, VT.names] at *
  have HW2 := Lib.hid (HB1.out.trans (hb2.mono HB1.out.size))
  obtain ⟨SD, hSD⟩ : ∃ SD : Nat → Prop, SD = All w2 := ⟨_, rfl⟩
  have hd1 := hd.all (fun b hb => hb.2)
  rw [← hSD] at hd1
  have hsd : ∀ b, SD b → b < w2.heap.size := by rw [hSD]; exact all_sub w2
  have HD1 := Lib.hid hd1
  have HSD1 := Lib.hid hsd
  obtain ⟨o, ho⟩ : ∃ o : Obj, o = .cells #[.int .i64 7, .int .i64 0, .string emp, .slice A 1 c, .slice A' 1 c'] 49 := ⟨_, rfl⟩
  have HX3 : Hid (Box (w2.alloc o) w2.heap.size (.int .i64 7) (.int .i64 0) (.string emp) (.slice A 1 c) (.slice A' 1 c')) := Lib.hid (by rw [ho]; exact Box.new _ _ _ _ _)
  have HD3 : Hid (LV (w2.alloc o) SD dD (.agg #[.int .i64 7, .int .i64 0, .string emp, .slice A 1 c, .slice A' 1 c'])) := Lib.hid (hd1.alloc hsd o)
  have HS3 : Hid (∀ b, SD b → b < (w2.alloc o).heap.size) := Lib.hid (sub_alloc hsd o)
  have HW3 : Hid (Below w.heap.size w (w2.alloc o)) := Lib.hid (HW2.out.alloc HW2.out.size o)
  obtain ⟨gx, hgx⟩ : ∃ gx, gx = w2.heap.size := ⟨_, rfl⟩
  subst ho
  clear hd hb2 HD0 HB1 HW2 hSD hd1 hsd HD1 HSD1
  go_wp2_with fail
  have T0 : Hid (St w (w2.heap.size + 1) SD w2.heap.size dD (.int .i64 7) (.int .i64 0) (.string emp) (.slice A 1 c) (.slice A' 1 c') (w2.alloc (.cells #[.int .i64 7, .int .i64 0, .string emp, .slice A 1 c, .slice A' 1 c'] 49))) := Lib.hid ⟨by simp, Nat.lt_succ_self _, HX3.out, HD3.out, HS3.out, HW3.out⟩
  clear HX3 HD3 HS3 HW3 hgx
  generalize (w2.alloc (.cells #[.int .i64 7, .int .i64 0, .string emp, .slice A 1 c, .slice A' 1 c'] 49)) = w3 at *
  obtain ⟨B, hB⟩ : ∃ B, B = w2.heap.size + 1 := ⟨_, rfl⟩
  rw [← hB] at T0
  clear hB
  generalize w2.heap.size = g at *
  try simp only [List.append_eq, List.cons_append, List.nil_append]
  refine wp_region_lexB B (by kernel_rfl) (by kernel_rfl) (fun _ d _ _ _ h => by cases d <;> exact h) ?_
  have T : Hid (St w B SD g dD (.int .i64 7) (.int .i64 0) (.string emp) (.slice A 1 c) (.slice A' 1 c') w3.drew) := Lib.hid (T0.out.call (below_predrew_r w3))
  clear T0
  generalize w3.drew = v0 at *
  have q0 := cell_later (B := B) (w := v0) T.out.x.c0 T.out.lt
  have q1 := cell_later (B := B) (w := v0) T.out.x.c1 T.out.lt
  have q2 := cell_later (B := B) (w := v0) T.out.x.c2 T.out.lt
  have q3 := cell_later (B := B) (w := v0) T.out.x.c3 T.out.lt
  have q4 := cell_later (B := B) (w := v0) T.out.x.c4 T.out.lt
  first | refine mix_pure ?_ | refine mix_pureB ?_
  simp only [List.takeWhile, List.dropWhile, isPure]
  repeat (go_big_quiet_step (fail))
  refine wpQuiet_nil ?_
  clear q0 q1 q2 q3 q4
  first | refine mix_call rfl (fun K hK => ?_) | refine mix_callB rfl (fun K hK => ?_)
  go_simp
  refine (l_may T.out).mono ?_
  rintro e v1 ⟨rfl, hb⟩
  refine hK _ _ (hb.mono T.out.n) ?_
  clear hK K
  try simp only [Act.put]
  have T := Lib.hid (T.out.call hb)
  clear hb
  have q0 := cell_later (B := B) (w := v1) T.out.x.c0 T.out.lt
  have q1 := cell_later (B := B) (w := v1) T.out.x.c1 T.out.lt
  have q2 := cell_later (B := B) (w := v1) T.out.x.c2 T.out.lt
  have q3 := cell_later (B := B) (w := v1) T.out.x.c3 T.out.lt
  have q4 := cell_later (B := B) (w := v1) T.out.x.c4 T.out.lt
  first | refine mix_pure ?_ | refine mix_pureB ?_
  simp only [List.takeWhile, List.dropWhile, isPure]
  repeat (go_big_quiet_step (fail))
  refine wpQuiet_nil ?_
  clear q0 q1 q2 q3 q4
  first | refine mix_call rfl (fun K hK => ?_) | refine mix_callB rfl (fun K hK => ?_)
  go_simp
  refine (l_check T.out).mono ?_
  rintro e v2 ⟨rfl, hb⟩
  refine hK _ _ (hb.mono T.out.n) ?_
  clear hK K
  try simp only [Act.put]
  have T := Lib.hid (T.out.call hb)
  clear hb
  have q0 := cell_later (B := B) (w := v2) T.out.x.c0 T.out.lt
  have q1 := cell_later (B := B) (w := v2) T.out.x.c1 T.out.lt
  have q2 := cell_later (B := B) (w := v2) T.out.x.c2 T.out.lt
  have q3 := cell_later (B := B) (w := v2) T.out.x.c3 T.out.lt
  have q4 := cell_later (B := B) (w := v2) T.out.x.c4 T.out.lt
  first | refine mix_pure ?_ | refine mix_pureB ?_
  simp only [List.takeWhile, List.dropWhile, isPure]
  repeat (go_big_quiet_step (fail))
  refine wpQuiet_nil ?_
  clear q0 q1 q2 q3 q4
  first | refine mix_call rfl (fun K hK => ?_) | refine mix_callB rfl (fun K hK => ?_)
  go_simp
  refine (l_depth T.out).mono ?_
  rintro e v3 ⟨rfl, hb⟩
  refine hK _ _ (hb.mono T.out.n) ?_
  clear hK K
  try simp only [Act.put]
  have T := Lib.hid (T.out.call hb)
  clear hb
  have q0 := cell_later (B := B) (w := v3) T.out.x.c0 T.out.lt
  have q1 := cell_later (B := B) (w := v3) T.out.x.c1 T.out.lt
  have q2 := cell_later (B := B) (w := v3) T.out.x.c2 T.out.lt
  have q3 := cell_later (B := B) (w := v3) T.out.x.c3 T.out.lt
  have q4 := cell_later (B := B) (w := v3) T.out.x.c4 T.out.lt
  first | refine mix_pure ?_ | refine mix_pureB ?_
  simp only [List.takeWhile, List.dropWhile, isPure]
  repeat (go_big_quiet_step (fail))
  refine wpQuiet_nil ?_
  clear q0 q1 q2 q3 q4
  first | refine mix_call rfl (fun K hK => ?_) | refine mix_callB rfl (fun K hK => ?_)
  go_simp
  refine (l_size T.out).mono ?_
  rintro e v4 ⟨rfl, hb⟩
  refine hK _ _ (hb.mono T.out.n) ?_
  clear hK K
  try simp only [Act.put]
  have T := Lib.hid (T.out.call hb)
  clear hb
  have q0 := cell_later (B := B) (w := v4) T.out.x.c0 T.out.lt
  have q1 := cell_later (B := B) (w := v4) T.out.x.c1 T.out.lt
  have q2 := cell_later (B := B) (w := v4) T.out.x.c2 T.out.lt
  have q3 := cell_later (B := B) (w := v4) T.out.x.c3 T.out.lt
  have q4 := cell_later (B := B) (w := v4) T.out.x.c4 T.out.lt
  first | refine mix_pure ?_ | refine mix_pureB ?_
  simp only [List.takeWhile, List.dropWhile, isPure]
  repeat (go_big_quiet_step (fail))
  refine wpQuiet_nil ?_
  clear q0 q1 q2 q3 q4
  first | refine mix_call rfl (fun K hK => ?_) | refine mix_callB rfl (fun K hK => ?_)
  go_simp
  refine (vint_any _ 1).mono ?_
  rintro e v5 ⟨rfl, hb⟩
  refine hK _ _ (hb.mono T.out.n) ?_
  clear hK K
  try simp only [Act.put]
  have T := Lib.hid (T.out.call hb)
  clear hb
  first | refine mix_call rfl (fun K hK => ?_) | refine mix_callB rfl (fun K hK => ?_)
  go_simp
  refine (vint_any _ 2).mono ?_
  rintro e v6 ⟨rfl, hb⟩
  refine hK _ _ (hb.mono T.out.n) ?_
  clear hK K
  try simp only [Act.put]
  have T := Lib.hid (T.out.call hb)
  clear hb
  first | refine mix_call rfl (fun K hK => ?_) | refine mix_callB rfl (fun K hK => ?_)
  go_simp
  refine (l_12 _).mono ?_
  rintro e v7 ⟨rfl, hb⟩
  refine hK _ _ (hb.mono T.out.n) ?_
  clear hK K
  try simp only [Act.put]
  have T := Lib.hid (T.out.call hb)
  clear hb
  have q0 := cell_later (B := B) (w := v7) T.out.x.c0 T.out.lt
  have q1 := cell_later (B := B) (w := v7) T.out.x.c1 T.out.lt
  have q2 := cell_later (B := B) (w := v7) T.out.x.c2 T.out.lt
  have q3 := cell_later (B := B) (w := v7) T.out.x.c3 T.out.lt
  have q4 := cell_later (B := B) (w := v7) T.out.x.c4 T.out.lt
  first | refine mix_pure ?_ | refine mix_pureB ?_
  simp only [List.takeWhile, List.dropWhile, isPure]
  repeat (go_big_quiet_step (fail))
  refine wpQuiet_nil ?_
  clear q0 q1 q2 q3 q4
  first | refine mix_call rfl (fun K hK => ?_) | refine mix_callB rfl (fun K hK => ?_)
  go_simp
  refine (null_any _).mono ?_
  rintro e v8 ⟨rfl, hb⟩
  refine hK _ _ (hb.mono T.out.n) ?_
  clear hK K
  try simp only [Act.put]
  have T := Lib.hid (T.out.call hb)
  clear hb
  first | refine mix_call rfl (fun K hK => ?_) | refine mix_callB rfl (fun K hK => ?_)
  go_simp
  refine (l_null T.out).mono ?_
  rintro e v9 ⟨rfl, hb⟩
  refine hK _ _ (hb.mono T.out.n) ?_
  clear hK K
  try simp only [Act.put]
  have T := Lib.hid (T.out.call hb)
  clear hb
  have q0 := cell_later (B := B) (w := v9) T.out.x.c0 T.out.lt
  have q1 := cell_later (B := B) (w := v9) T.out.x.c1 T.out.lt
  have q2 := cell_later (B := B) (w := v9) T.out.x.c2 T.out.lt
  have q3 := cell_later (B := B) (w := v9) T.out.x.c3 T.out.lt
  have q4 := cell_later (B := B) (w := v9) T.out.x.c4 T.out.lt
  first | refine mix_pure ?_ | refine mix_pureB ?_
  simp only [List.takeWhile, List.dropWhile, isPure]
  repeat (go_big_quiet_step (fail))
  refine wpQuiet_nil ?_
  clear q0 q1 q2 q3 q4
  first | refine mix_call rfl (fun K hK => ?_) | refine mix_callB rfl (fun K hK => ?_)
  go_simp
  refine (l_clone T.out).mono ?_
  rintro e v10 ⟨⟨vc, rfl, hc⟩, hb⟩
  refine hK _ _ (hb.mono T.out.n) ?_
  clear hK K
  try simp only [Act.put]
  have T := Lib.hid (T.out.call hb)
  clear hb
  have HC := Lib.hid hc
  clear hc
  first | refine mix_call rfl (fun K hK => ?_) | refine mix_callB rfl (fun K hK => ?_)
  go_simp
  refine (l_same T.out _ HC.out).mono ?_
  rintro e v11 ⟨rfl, hb⟩
  refine hK _ _ (hb.mono T.out.n) ?_
  clear hK K
  try simp only [Act.put]
  have T := Lib.hid (T.out.call hb)
  clear hb
  clear HC
  have q0 := cell_later (B := B) (w := v11) T.out.x.c0 T.out.lt
  have q1 := cell_later (B := B) (w := v11) T.out.x.c1 T.out.lt
  have q2 := cell_later (B := B) (w := v11) T.out.x.c2 T.out.lt
  have q3 := cell_later (B := B) (w := v11) T.out.x.c3 T.out.lt
  have q4 := cell_later (B := B) (w := v11) T.out.x.c4 T.out.lt
  first | refine mix_pure ?_ | refine mix_pureB ?_
  simp only [List.takeWhile, List.dropWhile, isPure]
  repeat (go_big_quiet_step (fail))
  refine wpQuiet_nil ?_
  clear q0 q1 q2 q3 q4
  first | refine mix_call rfl (fun K hK => ?_) | refine mix_callB rfl (fun K hK => ?_)
  go_simp
  refine (l_arr _).mono ?_
  rintro e v12 ⟨⟨vc, rfl, hc⟩, hb⟩
  refine hK _ _ (hb.mono T.out.n) ?_
  clear hK K
  try simp only [Act.put]
  have T := Lib.hid (T.out.call hb)
  clear hb
  have HC := Lib.hid hc
  clear hc
  first | refine mix_call rfl (fun K hK => ?_) | refine mix_callB rfl (fun K hK => ?_)
  go_simp
  refine (l_apart T.out _ HC.out).mono ?_
  rintro e v13 ⟨rfl, hb⟩
  refine hK _ _ (hb.mono T.out.n) ?_
  clear hK K
  try simp only [Act.put]
  have T := Lib.hid (T.out.call hb)
  clear hb
  clear HC
  first | refine mix_pure ?_ | refine mix_pureB ?_
  simp only [List.takeWhile, List.dropWhile, isPure]
  repeat (go_big_quiet_step (fail))
  refine wpQuiet_nil ?_
  first | refine mix_call rfl (fun K hK => ?_) | refine mix_callB rfl (fun K hK => ?_)
  go_simp
  refine hK _ _ (Below.refl _ _) ?_
  clear hK K
  try simp only [Act.put]
  first | refine mix_call rfl (fun K hK => ?_) | refine mix_callB rfl (fun K hK => ?_)
  go_simp
  refine (l_zero _).mono ?_
  rintro e v14 ⟨rfl, hb⟩
  refine hK _ _ (hb.mono T.out.n) ?_
  clear hK K
  try simp only [Act.put]
  have T := Lib.hid (T.out.call hb)
  clear hb
  first | refine mix_pure ?_ | refine mix_pureB ?_
  simp only [List.takeWhile, List.dropWhile, isPure]
  repeat (go_big_quiet_step (fail))
  refine wpQuiet_nil ?_
  first | refine mix_call rfl (fun K hK => ?_) | refine mix_callB rfl (fun K hK => ?_)
  go_simp
  refine (l_name ⟨#[97]⟩ true (by decide) n_a _).mono ?_
  rintro e u ⟨rfl, rfl⟩
  refine hK _ _ (Below.refl _ _) ?_
  clear hK K
  try simp only [Act.put]
  first | refine mix_pure ?_ | refine mix_pureB ?_
  simp only [List.takeWhile, List.dropWhile, isPure]
  repeat (go_big_quiet_step (fail))
  refine wpQuiet_nil ?_
  first | refine mix_call rfl (fun K hK => ?_) | refine mix_callB rfl (fun K hK => ?_)
  go_simp
  refine (l_name ⟨#[36, 97]⟩ false (by decide) n_da _).mono ?_
  rintro e u ⟨rfl, rfl⟩
  refine hK _ _ (Below.refl _ _) ?_
  clear hK K
  try simp only [Act.put]
  first | refine mix_pure ?_ | refine mix_pureB ?_
  simp only [List.takeWhile, List.dropWhile, isPure]
  repeat (go_big_quiet_step (fail))
  refine wpQuiet_nil ?_
  first | refine mix_call rfl (fun K hK => ?_) | refine mix_callB rfl (fun K hK => ?_)
  go_simp
  refine (l_name ⟨#[97, 46, 98]⟩ false (by decide) n_ab _).mono ?_
  rintro e u ⟨rfl, rfl⟩
  refine hK _ _ (Below.refl _ _) ?_
  clear hK K
  try simp only [Act.put]
  first | refine mix_pure ?_ | refine mix_pureB ?_
  simp only [List.takeWhile, List.dropWhile, isPure]
  repeat (go_big_quiet_step (fail))
  refine wpQuiet_nil ?_
  first | refine mix_call rfl (fun K hK => ?_) | refine mix_callB rfl (fun K hK => ?_)
  go_simp
  refine (bool_any _ true).mono ?_
  rintro e v15 ⟨rfl, hb⟩
  refine hK _ _ (hb.mono T.out.n) ?_
  clear hK K
  try simp only [Act.put]
  have T := Lib.hid (T.out.call hb)
  clear hb
  have fd := fun p : Later B v15 => field1 (.int .i64 2) (.int .i64 1) (.string ⟨#[]⟩) (.slice none 0 0) (.slice none 0 0) p.u
  first | refine mix_pure ?_ | refine mix_pureB ?_
  simp only [List.takeWhile, List.dropWhile, isPure]
  repeat (go_big_quiet_step (fail))
  refine wpQuiet_nil ?_
  clear fd
  first | refine mix_call rfl (fun K hK => ?_) | refine mix_callB rfl (fun K hK => ?_)
  go_simp
  refine (vtext_any _ ⟨#[120]⟩).mono ?_
  rintro e v16 ⟨rfl, hb⟩
  refine hK _ _ (hb.mono T.out.n) ?_
  clear hK K
  try simp only [Act.put]
  have T := Lib.hid (T.out.call hb)
  clear hb
  have fd := fun p : Later B v16 => field2 (.int .i64 4) (.int .i64 0) (.string ⟨#[120]⟩) (.slice none 0 0) (.slice none 0 0) p.u
  first | refine mix_pure ?_ | refine mix_pureB ?_
  simp only [List.takeWhile, List.dropWhile, isPure]
  repeat (go_big_quiet_step (fail))
  refine wpQuiet_nil ?_
  clear fd
  first | refine mix_call rfl (fun K hK => ?_) | refine mix_callB rfl (fun K hK => ?_)
  go_simp
  refine hK _ _ ((below_box _).mono T.out.n) ?_
  clear hK K
  try simp only [Act.put]
  have cc := cvmark v16
  first | refine mix_call rfl (fun K hK => ?_) | refine mix_callB rfl (fun K hK => ?_)
  go_simp
  refine hK _ _ (marked T.out.n _ _) ?_
  clear hK K
  try simp only [Act.put]
  clear cc
  have T := Lib.hid (T.out.call (below_box (.cells #[.int .u8 121] 5 (1, 2))))
  have HCV := Lib.hid (cv121 v16)
  first | refine mix_call rfl (fun K hK => ?_) | refine mix_callB rfl (fun K hK => ?_)
  go_simp
  refine (vbytes_any _ _ ⟨#[121]⟩ HCV.out).mono ?_
  rintro e v17 ⟨rfl, hb⟩
  refine hK _ _ (hb.mono T.out.n) ?_
  clear hK K
  try simp only [Act.put]
  have T := Lib.hid (T.out.call hb)
  clear hb
  clear HCV
  have fd := fun p : Later B v17 => field2 (.int .i64 5) (.int .i64 0) (.string ⟨#[121]⟩) (.slice none 0 0) (.slice none 0 0) p.u
  first | refine mix_pure ?_ | refine mix_pureB ?_
  simp only [List.takeWhile, List.dropWhile, isPure]
  repeat (go_big_quiet_step (fail))
  refine wpQuiet_nil ?_
  clear fd
  unfold wpMix
  have HF := Lib.hid T.out.h
  clear T
  go_wp2_with fail
  go_ret
  exact ⟨rfl, HF.out⟩
end Go.Proofs.Yteakkbgfkcknlaa
