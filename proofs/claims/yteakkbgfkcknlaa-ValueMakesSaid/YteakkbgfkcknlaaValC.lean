/- Whether a value is whole. -/
import Derived.Test.YteakkbgfkcknlaaValZ
namespace Go.Proofs.Yteakkbgfkcknlaa
open Go.RowKit

/-- A variable that holds a value. -/
def Box (w : World) (g : Nat) (a b c d e : Value) : Prop := w.heap[g]? = some (.cells #[a, b, c, d, e] 49 (0, 0))
theorem Box.c0 {w : World} {g : Nat} {a b c d e : Value} (h : Box w g a b c d e) : w.cell? ⟨g, 0, none⟩ = some a := Go.Joins.cell_of_block h 0
theorem Box.c1 {w : World} {g : Nat} {a b c d e : Value} (h : Box w g a b c d e) : w.cell? ⟨g, 1, none⟩ = some b := Go.Joins.cell_of_block h 1
theorem Box.c2 {w : World} {g : Nat} {a b c d e : Value} (h : Box w g a b c d e) : w.cell? ⟨g, 2, none⟩ = some c := Go.Joins.cell_of_block h 2
theorem Box.c3 {w : World} {g : Nat} {a b c d e : Value} (h : Box w g a b c d e) : w.cell? ⟨g, 3, none⟩ = some d := Go.Joins.cell_of_block h 3
theorem Box.c4 {w : World} {g : Nat} {a b c d e : Value} (h : Box w g a b c d e) : w.cell? ⟨g, 4, none⟩ = some e := Go.Joins.cell_of_block h 4
theorem Box.free {w : World} {g : Nat} {a b c d e : Value} (h : Box w g a b c d e) (i : Nat) : w.frozen? ⟨g, i, none⟩ = false := Go.Joins.unfrozen_of_block h i
theorem Box.lt {w : World} {g : Nat} {a b c d e : Value} (h : Box w g a b c d e) : g < w.heap.size := (Array.getElem?_eq_some_iff.1 h).1
theorem Box.new {w : World} (a b c d e : Value) : Box (w.alloc (.cells #[a, b, c, d, e] 49)) w.heap.size a b c d e := heap_alloc_new w _
theorem Box.below {w w' : World} {g B : Nat} {a b c d e : Value} (h : Box w g a b c d e) (hb : Below B w w') (hg : g < B) : Box w' g a b c d e := (hb.block g hg).trans h
theorem Box.call {w w' : World} {g : Nat} {a b c d e : Value} (h : Box w g a b c d e) (hb : Below w.heap.size w w') : Box w' g a b c d e := h.below hb h.lt
theorem Box.alloc {w : World} {g : Nat} {a b c d e : Value} (h : Box w g a b c d e) (o : Obj) : Box (w.alloc o) g a b c d e := (Below.heap_alloc w o g h.lt).trans h

def checkT (t : VT) : Int := if mayT t then (if 8 < (depthT t : Int) then 21 else if 4096 < wrap64 (sizeT t) then 22 else 0) else 20

section
variable (S : Nat → Prop) (t : VT) (v : Value) (w : World)
set_option maxHeartbeats 400000
theorem sizeV_any (hS : ∀ b, S b → b < w.heap.size) (h : LV w S t v) (hd : depthT t ≤ 4611686018427387903) : Calls Try.prog 44 #[v] w fun e w' => e = .returned (.int .i64 (if mayT t then wrap64 (sizeT t) else 0)) ∧ Below w.heap.size w w' := by
  have HV := Lib.hid h
  obtain ⟨A, c, A', c', rfl, -, -, -, -, -, -, -⟩ := h.shape
  have HX := Lib.hid (Box.new (w := w) (.int .i64 t.kind) (.int .i64 t.num) (.string t.text) (.slice A t.items.length c) (.slice A' t.names.length c'))
  have HM := Lib.hid (may_any S t _ _ (sub_alloc hS _) (h.alloc hS (.cells #[.int .i64 t.kind, .int .i64 t.num, .string t.text, .slice A t.items.length c, .slice A' t.names.length c'] 49)) hd)
  have HD := Lib.hid hd
  clear h hd
  generalize hm : mayT t = m at *
  clear hm
  go_enter Try.func44, Try.ntmps44
  go_wp2_with fail
  refine HM.out.mono ?_
  rintro e w1 ⟨rfl, hb⟩
  have HB1 := Lib.hid (toStart (below_box _) hb)
  have hx := HX.out.call hb
  have k0 := hx.c0
  have k1 := hx.c1
  have k2 := hx.c2
  have k3 := hx.c3
  have k4 := hx.c4
  clear hx hb HM
  cases m
  · go_wp2_with fail
    go_ret
    exact ⟨rfl, HB1.out⟩
  · go_wp2_with fail
    refine (size_any S t _ w1 (sub_below hS HB1.out) (HV.out.below hS HB1.out) HD.out).mono ?_
    rintro e w2 ⟨rfl, hb⟩
    have HB2 := Lib.hid (toStart HB1.out hb)
    clear hb HB1 HV k0 k1 k2 k3 k4
    go_wp2_with fail
    go_ret
    exact ⟨rfl, HB2.out⟩

theorem check_any (hS : ∀ b, S b → b < w.heap.size) (h : LV w S t v) (hd : depthT t ≤ 4611686018427387903) : Calls Try.prog 41 #[v] w fun e w' => e = .returned (.int .i64 (checkT t)) ∧ Below w.heap.size w w' := by
  have HV := Lib.hid h
  obtain ⟨A, c, A', c', rfl, -, -, -, -, -, -, -⟩ := h.shape
  have HX := Lib.hid (Box.new (w := w) (.int .i64 t.kind) (.int .i64 t.num) (.string t.text) (.slice A t.items.length c) (.slice A' t.names.length c'))
  have HM := Lib.hid (may_any S t _ _ (sub_alloc hS _) (h.alloc hS (.cells #[.int .i64 t.kind, .int .i64 t.num, .string t.text, .slice A t.items.length c, .slice A' t.names.length c'] 49)) hd)
  have HD := Lib.hid hd
  have HE : Hid (checkT t = if mayT t then (if 8 < (depthT t : Int) then 21 else if 4096 < wrap64 (sizeT t) then 22 else 0) else 20) := rfl
  generalize checkT t = R at *
  clear h hd
  generalize hm : mayT t = m at *
  clear hm
  go_enter Try.func41, Try.ntmps41
  go_wp2_with fail
  refine HM.out.mono ?_
  rintro e w1 ⟨rfl, hb⟩
  have HB1 := Lib.hid (toStart (below_box _) hb)
  have hx := HX.out.call hb
  have HX1 := Lib.hid hx
  have k0 := hx.c0
  have k1 := hx.c1
  have k2 := hx.c2
  have k3 := hx.c3
  have k4 := hx.c4
  clear hx hb HM HX
  cases m
  · go_wp2_with fail
    go_ret
    rw [HE.out]
    exact ⟨rfl, HB1.out⟩
  · go_wp2_with fail
    refine (depth_any S t _ w1 (sub_below hS HB1.out) (HV.out.below hS HB1.out) HD.out).mono ?_
    rintro e w2 ⟨rfl, hb⟩
    have HB2 := Lib.hid (toStart HB1.out hb)
    have hx := HX1.out.call hb
    clear k0 k1 k2 k3 k4
    have k0 := hx.c0
    have k1 := hx.c1
    have k2 := hx.c2
    have k3 := hx.c3
    have k4 := hx.c4
    clear hx hb HB1 HX1
    by_cases h8 : 8 < (depthT t : Int)
    · have e1 : R = 21 := by rw [HE.out, if_pos trivial, if_pos h8]
      go_wp2_with fail
      go_ret
      rw [e1]
      exact ⟨rfl, HB2.out⟩
    · have HE2 : Hid (R = if 4096 < wrap64 (sizeT t) then 22 else 0) := Lib.hid (by rw [HE.out, if_pos trivial, if_neg h8])
      clear HE
      go_wp2_with fail
      refine (size_any S t _ w2 (sub_below hS HB2.out) (HV.out.below hS HB2.out) HD.out).mono ?_
      rintro e w3 ⟨rfl, hb⟩
      have HB3 := Lib.hid (toStart HB2.out hb)
      clear k0 k1 k2 k3 k4 hb HB2 HV
      generalize wrap64 (sizeT t) = z at *
      by_cases hz : 4096 < z
      · have e1 : R = 22 := by rw [HE2.out, if_pos hz]
        go_wp2_with fail
        go_ret
        rw [e1]
        exact ⟨rfl, HB3.out⟩
      · have e1 : R = 0 := by rw [HE2.out, if_neg hz]
        go_wp2_with fail
        go_ret
        rw [e1]
        exact ⟨rfl, HB3.out⟩
end
end Go.Proofs.Yteakkbgfkcknlaa
