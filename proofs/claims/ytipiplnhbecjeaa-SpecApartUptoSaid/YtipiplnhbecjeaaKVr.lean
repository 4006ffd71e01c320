/- A variable that holds a value that lies in memory. -/
import Derived.Test.YtipiplnhbecjeaaKLook
namespace Go.Proofs.Ytipiplnhbecjeaa
set_option linter.unusedVariables false
set_option linter.unusedSimpArgs false
open Go.RowKit

structure Vr (u : World) (S : Nat → Prop) (g : Nat) (t : VT) (A : Option Addr) (c : Nat) (A' : Option Addr) (c' : Nat) : Prop where
  x : Box u g (.int .i64 t.kind) (.int .i64 t.num) (.string t.text) (.slice A t.items.length c) (.slice A' t.names.length c')
  v : LV u S t (.agg #[.int .i64 t.kind, .int .i64 t.num, .string t.text, .slice A t.items.length c, .slice A' t.names.length c'])
  s : ∀ b, S b → b < u.heap.size
section
variable {u u' : World} {S : Nat → Prop} {g : Nat} {t : VT} {A : Option Addr} {c : Nat} {A' : Option Addr} {c' : Nat}
theorem Vr.call (h : Vr u S g t A c A' c') (hb : Below u.heap.size u u') : Vr u' S g t A c A' c' := ⟨h.x.call hb, h.v.below h.s hb, sub_below h.s hb⟩
theorem Vr.alloc (h : Vr u S g t A c A' c') (o : Obj) : Vr (u.alloc o) S g t A c A' c' := h.call (below_box o)
theorem Vr.drew (h : Vr u S g t A c A' c') : Vr u.drew S g t A c A' c' := h.call (below_predrew_l u)
  where below_predrew_l (u : World) : Below u.heap.size u u.drew := (Below.refl _ _).drew
theorem Vr.new (hS : ∀ b, S b → b < u.heap.size) (h : LV u S t (.agg #[.int .i64 t.kind, .int .i64 t.num, .string t.text, .slice A t.items.length c, .slice A' t.names.length c'])) :
    Vr (u.alloc (.cells #[.int .i64 t.kind, .int .i64 t.num, .string t.text, .slice A t.items.length c, .slice A' t.names.length c'] 25)) S u.heap.size t A c A' c' := ⟨Box.new _ _ _ _ _, h.alloc hS _, sub_alloc hS _⟩
end
theorem cmpV_tri (a b c : VT) : Tri (cmpV a b) (cmpV b c) (cmpV a c) := by
  have h := cmpT_tri a b c
  unfold cmpV
  cases mayT a <;> cases mayT b <;> cases mayT c <;> simp <;> first | exact h | (unfold Tri; omega)
theorem cmpV_neg (a b : VT) : cmpV b a = -(cmpV a b) := by
  have h := cmpT_neg a b
  unfold cmpV
  cases mayT a <;> cases mayT b <;> simp <;> exact h
theorem dep_ok {t : VT} (h : largeT t = false) : depthT t ≤ 4611686018427387903 := Nat.le_trans (depth_small h) (by decide)
section
variable {u : World} {S : Nat → Prop} {g g' : Nat} {t t' : VT} {A B : Option Addr} {c d : Nat} {A' B' : Option Addr} {c' d' : Nat}
/-- A variable as an argument. -/
abbrev agg5 (t : VT) (A : Option Addr) (c : Nat) (A' : Option Addr) (c' : Nat) : Value := .agg #[.int .i64 t.kind, .int .i64 t.num, .string t.text, .slice A t.items.length c, .slice A' t.names.length c']
end
end Go.Proofs.Ytipiplnhbecjeaa
