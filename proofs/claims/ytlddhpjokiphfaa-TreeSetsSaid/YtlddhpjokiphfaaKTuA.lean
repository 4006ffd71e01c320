/- The document's Set, plain; and where no step is left. -/
import Derived.Test.YtlddhpjokiphfaaKTtC
import Derived.Test.YtlddhpjokiphfaaKTkM
namespace Go.Proofs.Ytlddhpjokiphfaa
set_option linter.unusedVariables false
set_option linter.unusedSimpArgs false
open Go.RowKit
def emptyD : VT := .mk 7 0 ⟨#[]⟩ [] []
/-- What the document's Set answers. -/
def setO (x : VT) : VT → List ByteArray → VT × Bool
  | _, [] => (x, true)
  | t, s :: r => if placeT t s < 0 then
      (if t.kind = 7 then (withT t t.items.length s (setO x emptyD r).1, (setO x emptyD r).2)
       else if t.kind = 6 ∧ r = [] ∧ idxI s.data.toList = (t.items.length : Int) then (withT t t.items.length ⟨#[]⟩ x, true) else (t, false))
    else match t.items[(placeT t s).toNat]? with
      | none => (t, false)
      | some y => (withT t (placeT t s) ⟨#[]⟩ (setO x y r).1, (setO x y r).2)
theorem setO_on {x t : VT} {s : ByteArray} {r : List ByteArray} (h : 0 ≤ placeT t s) (hj : (placeT t s).toNat < t.items.length) :
    setO x t (s :: r) = (withT t (placeT t s) ⟨#[]⟩ (setO x t.items[(placeT t s).toNat] r).1, (setO x t.items[(placeT t s).toNat] r).2) := by
  conv => lhs; unfold setO
  rw [if_neg (by omega), List.getElem?_eq_getElem hj]
theorem setO_off {x t : VT} {s : ByteArray} {r : List ByteArray} (h : placeT t s < 0) :
    setO x t (s :: r) = if t.kind = 7 then (withT t t.items.length s (setO x emptyD r).1, (setO x emptyD r).2)
       else if t.kind = 6 ∧ r = [] ∧ idxI s.data.toList = (t.items.length : Int) then (withT t t.items.length ⟨#[]⟩ x, true) else (t, false) := by
  conv => lhs; unfold setO
  rw [if_pos h]
theorem empty_may : mayT emptyD = true := by kernel_rfl
theorem empty_small : smallT emptyD := by
  show lensT 10000 emptyD = true
  kernel_rfl
def SetR (S : Nat → Prop) (res : VT × Bool) (w : World) (e : Ending) (w' : World) : Prop :=
  ∃ v', e = .returned (.tuple #[v', .bool res.2]) ∧ LV w' (fun b => S b ∨ (w.heap.size ≤ b ∧ b < w'.heap.size)) res.1 v' ∧ Below w.heap.size w w'
def RSetO (p : List ByteArray) : Prop := ∀ (S : Nat → Prop) (t x : VT) (v vx : Value) (A : Option Addr) (c : Nat) (w : World), (∀ b, S b → b < w.heap.size) → LV w S t v → LV w S x vx → mayT t = true → smallT t → StrsAt w S A p → p.length ≤ c → c ≤ 9223372036854775807 → p.length ≤ 140737488351232 →
  Calls Try.prog 20 #[v, .slice A p.length c, vx] w (SetR S (setO x t p) w)
/-- The result's box filled with a value, and what is told. -/
theorem set_end {S : Nat → Prop} {w w5 : World} {m g : Nat} {u : VT} {ok : Bool} {res : VT × Bool} {c0 c1 c2 c3 c4 : Value} (hS : ∀ b, S b → b < w.heap.size) (hb : Below w.heap.size w w5) (hg : w.heap.size ≤ g) (hm : g < m) (hv : LV w5 (fun b => S b ∨ (m ≤ b ∧ b < w5.heap.size)) u (.agg #[c0, c1, c2, c3, c4])) (hr : res = (u, ok)) :
    SetR S res w (.returned (.tuple #[.agg #[c0, c1, c2, c3, c4], .bool ok])) (five w5 g 0 c0 c1 c2 c3 c4) := by
  have hr5 := five_rest w5 g 0 c0 c1 c2 c3 c4
  have hz := five_size w5 g 0 c0 c1 c2 c3 c4
  have hk : ∀ b, b ≠ g → (five w5 g 0 c0 c1 c2 c3 c4).heap[b]? = w5.heap[b]? := fun b hb' => five_other _ _ _ _ _ _ _ _ b hb'
  subst hr
  exact ⟨_, rfl, (hv.keep fun b hb' => hk b (hb'.elim (fun e => by have := hS b e; omega) (fun e => by have := e.1; omega))).imp fun b hb' => hb'.imp id fun e => ⟨by have := e.1; omega, by rw [hz]; exact e.2⟩, ⟨hr5.1.trans hb.os, hr5.2.1.trans hb.tape, hr5.2.2.trans hb.output, by rw [hz]; exact hb.size, fun b hb' => (hk b (by omega)).trans (hb.block b hb')⟩⟩
set_option maxHeartbeats 4000000 in
set_option maxRecDepth 100000 in
theorem rset_nil : RSetO [] := by
  intro S t x v vx A c w hS h hx hm hsm hp hpc h63 hn
  obtain ⟨A0, c0, A0', c0', B0, d0, B0', d0', rfl, rfl, -, -, -, -, -, hV, hX, hb0⟩ := two_vars hS h hx
  have hz0 : ((w.alloc (.cells #[.int .i64 t.kind, .int .i64 t.num, .string t.text, .slice A0 t.items.length c0, .slice A0' t.names.length c0'] 25)).alloc (.cells #[.int .i64 x.kind, .int .i64 x.num, .string x.text, .slice B0 x.items.length d0, .slice B0' x.names.length d0'] 25)).heap.size = w.heap.size + 2 := by simp
  have hR := Box.new (w := ((w.alloc (.cells #[.int .i64 t.kind, .int .i64 t.num, .string t.text, .slice A0 t.items.length c0, .slice A0' t.names.length c0'] 25)).alloc (.cells #[.int .i64 x.kind, .int .i64 x.num, .string x.text, .slice B0 x.items.length d0, .slice B0' x.names.length d0'] 25))) (.int .i64 0) (.int .i64 0) (.string ⟨#[]⟩) (.slice none 0 0) (.slice none 0 0)
  rw [hz0] at hR
  have hbr := below_box (w := ((w.alloc (.cells #[.int .i64 t.kind, .int .i64 t.num, .string t.text, .slice A0 t.items.length c0, .slice A0' t.names.length c0'] 25)).alloc (.cells #[.int .i64 x.kind, .int .i64 x.num, .string x.text, .slice B0 x.items.length d0, .slice B0' x.names.length d0'] 25))) (.cells #[.int .i64 0, .int .i64 0, .string ⟨#[]⟩, .slice none 0 0, .slice none 0 0] 25)
  have hX0 := hX
  have HB0 := Lib.hid hb0
  replace hX := hX.call hbr
  have HB := Lib.hid (toStart hb0 hbr)
  have HS := Lib.hid hS
  clear h hx hb0 hbr hS hV hp hm hsm
  have x0 := hX.x.c0
  have x1 := hX.x.c1
  have x2 := hX.x.c2
  have x3 := hX.x.c3
  have x4 := hX.x.c4
  have hbx := below_box (w := ((w.alloc (.cells #[.int .i64 t.kind, .int .i64 t.num, .string t.text, .slice A0 t.items.length c0, .slice A0' t.names.length c0'] 25)).alloc (.cells #[.int .i64 x.kind, .int .i64 x.num, .string x.text, .slice B0 x.items.length d0, .slice B0' x.names.length d0'] 25))) (.cells #[.int .i64 x.kind, .int .i64 x.num, .string x.text, .slice B0 x.items.length d0, .slice B0' x.names.length d0'] 25)
  have HX := Lib.hid hX0
  have HBX := Lib.hid (toStart HB0.out hbx)
  have hgx := heap_alloc_new ((w.alloc (.cells #[.int .i64 t.kind, .int .i64 t.num, .string t.text, .slice A0 t.items.length c0, .slice A0' t.names.length c0'] 25)).alloc (.cells #[.int .i64 x.kind, .int .i64 x.num, .string x.text, .slice B0 x.items.length d0, .slice B0' x.names.length d0'] 25)) (.cells #[.int .i64 x.kind, .int .i64 x.num, .string x.text, .slice B0 x.items.length d0, .slice B0' x.names.length d0'] 25)
  rw [hz0] at hgx
  have hfin : SetR S (setO x t []) w (.returned (.tuple #[.agg #[.int .i64 x.kind, .int .i64 x.num, .string x.text, .slice B0 x.items.length d0, .slice B0' x.names.length d0'], .bool true])) (((w.alloc (.cells #[.int .i64 t.kind, .int .i64 t.num, .string t.text, .slice A0 t.items.length c0, .slice A0' t.names.length c0'] 25)).alloc (.cells #[.int .i64 x.kind, .int .i64 x.num, .string x.text, .slice B0 x.items.length d0, .slice B0' x.names.length d0'] 25)).alloc (.cells #[.int .i64 x.kind, .int .i64 x.num, .string x.text, .slice B0 x.items.length d0, .slice B0' x.names.length d0'] 25)) :=
    ⟨_, rfl, ((HX.out.v.keep fun b hb => hbx.block b (HX.out.s b hb))).imp fun b hb => .inl hb, HBX.out⟩
  have HF := Lib.hid hfin
  have HG := Lib.hid hgx
  clear hX hR hbx hfin hgx hz0 hX0
  go_enter Try.func20, Try.ntmps20
  go_wp2_with fail
  (try simp only [Exit.inBlock, Exit.then])
  refine bodyPost_ret (results_cell_two rfl _ _ (w.heap.size + 2) 25 _ (0, 0) rfl HG.out (by kernel_rfl)) rfl ?_
  exact HF.out
end Go.Proofs.Ytlddhpjokiphfaa
