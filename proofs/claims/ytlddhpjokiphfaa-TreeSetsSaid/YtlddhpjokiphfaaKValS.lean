/- How large a value is. -/
import Derived.Test.YtlddhpjokiphfaaKValF
import Derived.Deep.RegionWith
namespace Go.Proofs.Ytlddhpjokiphfaa
set_option linter.unusedVariables false
set_option linter.unusedSimpArgs false
open Go.RowKit

theorem OwnB.slice {w : World} {B : Nat} {v : Value} {l : List UInt8} (h : OwnB w B v l) : ∃ A c, v = .slice A l.length c := by
  rcases h.2 with ⟨rfl, h2⟩ | ⟨g, cap, cur, rfl, _⟩
  · exact ⟨none, 0, by rw [h2]⟩
  · exact ⟨_, _, rfl⟩
theorem wrap64_add (a b : Int) : wrap64 (wrap64 a + b) = wrap64 (a + b) := by unfold wrap64; omega
theorem wrap64_add2 (a b : Int) : wrap64 (a + wrap64 b) = wrap64 (a + b) := by unfold wrap64; omega
theorem wrap64_id {a : Int} (h1 : -9223372036854775808 ≤ a) (h2 : a ≤ 9223372036854775807) : wrap64 a = a := by unfold wrap64; omega


/-- The bytes of a text's code. -/
def tsz (s : ByteArray) : Nat := (grp s.size).length + s.size

def sumN (ns : List ByteArray) : Nat := (ns.map tsz).sum
def ownP (k i : Int) (s : ByteArray) (n : Nat) (ns : List ByteArray) : Nat :=
  if k = 2 then 2 else if k = 3 then 1 + (grp (zig i)).length else if k = 4 ∨ k = 5 then 1 + tsz s
  else if k = 6 then 1 + (grp n).length else if k = 7 then 1 + (grp n).length + sumN ns else 1
def ownT : VT → Nat
  | .mk k i s l ns => ownP k i s l.length ns
theorem sumN_take (ns : List ByteArray) (k : Nat) (hk : k < ns.length) : sumN (ns.take (k + 1)) = sumN (ns.take k) + tsz ns[k] := by
  unfold sumN
  rw [List.take_add_one, List.getElem?_eq_getElem hk, List.map_append, List.sum_append]
  simp
theorem sumN_all (ns : List ByteArray) (k : Nat) (hk : ns.length ≤ k) : sumN (ns.take k) = sumN ns := by rw [List.take_of_length_le hk]
theorem tsz_le (s : ByteArray) (h : s.size ≤ 140737488351232) : tsz s ≤ 140737488351300 := by have := (grp_length s.size).1; unfold tsz; omega

section
variable (i : Int) (s : ByteArray) (A A' : Option Addr) (n c c' : Nat) (ns : List ByteArray) (w : World)
set_option maxHeartbeats 1000000
set_option maxRecDepth 100000
end
end Go.Proofs.Ytlddhpjokiphfaa

/- How large a value is: the walk's sum. -/
namespace Go.Proofs.Ytlddhpjokiphfaa
set_option linter.unusedVariables false
set_option linter.unusedSimpArgs false
open Go.RowKit

theorem LV.drew {w : World} {S : Nat → Prop} {t : VT} {v : Value} (h : LV w S t v) : LV w.drew S t v := LV.keep (w := w) (w' := w.drew) (fun _ _ => rfl) h
theorem i64wrap (x : Int) : IntKind.i64.wrap x = wrap64 x := by rw [IntKind.wrap_i64]; unfold wrap64; rfl
def sizF : VT → Nat → Int → Int × Bool := fun x _ st => (wrap64 (st + wrap64 (ownT x)), true)
mutual
def sizeT : VT → Nat
  | .mk k i s l ns => ownP k i s l.length ns + sizeL l
def sizeL : List VT → Nat
  | [] => 0
  | t :: r => sizeT t + sizeL r
end
mutual
theorem walk_siz : ∀ (t : VT) (d : Nat) (st : Int), walkT sizF t d (wrap64 st) = (wrap64 (st + sizeT t), true)
  | .mk k i s l ns, d, st => by
    rw [walkT_go (f := sizF) rfl]
    show walkL sizF l (d + 1) (wrap64 (wrap64 st + wrap64 (ownP k i s l.length ns))) = _
    rw [wrap64_add2, wrap64_add, walk_sizL l]
    unfold sizeT
    congr 2; omega
theorem walk_sizL : ∀ (l : List VT) (d : Nat) (st : Int), walkL sizF l d (wrap64 st) = (wrap64 (st + sizeL l), true)
  | [], d, st => by rw [walkL_nil]; unfold sizeL; simp
  | t :: r, d, st => by
    have h := walk_siz t d st
    rw [walkL_go (by rw [h]), h]
    show walkL sizF r d (wrap64 (st + sizeT t)) = _
    rw [walk_sizL r]
    conv => rhs; unfold sizeL
    congr 2; omega
end


end Go.Proofs.Ytlddhpjokiphfaa

/- Whether a value is whole. -/
namespace Go.Proofs.Ytlddhpjokiphfaa
set_option linter.unusedVariables false
set_option linter.unusedSimpArgs false
open Go.RowKit

/-- A variable that holds a value. -/
def Box (w : World) (g : Nat) (a b c d e : Value) : Prop := w.heap[g]? = some (.cells #[a, b, c, d, e] 25 (0, 0))
theorem Box.c0 {w : World} {g : Nat} {a b c d e : Value} (h : Box w g a b c d e) : w.cell? ⟨g, 0, none⟩ = some a := Go.Joins.cell_of_block h 0
theorem Box.c1 {w : World} {g : Nat} {a b c d e : Value} (h : Box w g a b c d e) : w.cell? ⟨g, 1, none⟩ = some b := Go.Joins.cell_of_block h 1
theorem Box.c2 {w : World} {g : Nat} {a b c d e : Value} (h : Box w g a b c d e) : w.cell? ⟨g, 2, none⟩ = some c := Go.Joins.cell_of_block h 2
theorem Box.c3 {w : World} {g : Nat} {a b c d e : Value} (h : Box w g a b c d e) : w.cell? ⟨g, 3, none⟩ = some d := Go.Joins.cell_of_block h 3
theorem Box.c4 {w : World} {g : Nat} {a b c d e : Value} (h : Box w g a b c d e) : w.cell? ⟨g, 4, none⟩ = some e := Go.Joins.cell_of_block h 4
theorem Box.free {w : World} {g : Nat} {a b c d e : Value} (h : Box w g a b c d e) (i : Nat) : w.frozen? ⟨g, i, none⟩ = false := Go.Joins.unfrozen_of_block h i
theorem Box.lt {w : World} {g : Nat} {a b c d e : Value} (h : Box w g a b c d e) : g < w.heap.size := (Array.getElem?_eq_some_iff.1 h).1
theorem Box.new {w : World} (a b c d e : Value) : Box (w.alloc (.cells #[a, b, c, d, e] 25)) w.heap.size a b c d e := heap_alloc_new w _
theorem Box.below {w w' : World} {g B : Nat} {a b c d e : Value} (h : Box w g a b c d e) (hb : Below B w w') (hg : g < B) : Box w' g a b c d e := (hb.block g hg).trans h
theorem Box.call {w w' : World} {g : Nat} {a b c d e : Value} (h : Box w g a b c d e) (hb : Below w.heap.size w w') : Box w' g a b c d e := h.below hb h.lt
theorem Box.alloc {w : World} {g : Nat} {a b c d e : Value} (h : Box w g a b c d e) (o : Obj) : Box (w.alloc o) g a b c d e := (Below.heap_alloc w o g h.lt).trans h

def checkT (t : VT) : Int := if mayT t then (if 8 < (depthT t : Int) then 21 else if 4096 < wrap64 (sizeT t) then 22 else 0) else 20

section
variable (S : Nat → Prop) (t : VT) (v : Value) (w : World)
set_option maxHeartbeats 400000

end
end Go.Proofs.Ytlddhpjokiphfaa
