/- Values within values, as trees: what the order, the depth, the size and the looks of a tree are. -/
import Derived.Test.YteakkbgfkcknlaaRows
import Derived.Test.YteakkbgfkcknlaaMath
namespace Go.Proofs.Yteakkbgfkcknlaa

/-- A value: kind, number, text, items, names. -/
inductive VT where
  | mk (k i : Int) (s : ByteArray) (l : List VT) (ns : List ByteArray) : VT

namespace VT
def kind : VT → Int | mk k _ _ _ _ => k
def num : VT → Int | mk _ i _ _ _ => i
def text : VT → ByteArray | mk _ _ s _ _ => s
def items : VT → List VT | mk _ _ _ l _ => l
def names : VT → List ByteArray | mk _ _ _ _ ns => ns
end VT

/-! ### how many, up to a bound -/
mutual
def nodesT : Nat → VT → Nat
  | d, .mk _ _ _ l ns => if 40 < d then 1048576 else nodesL d (1 + ns.length) l
def nodesL : Nat → Nat → List VT → Nat
  | _, n, [] => n
  | d, n, t :: r => if n < 65536 then nodesL d (n + nodesT (d + 1) t) r else n
end
def largeT (t : VT) : Bool := decide (3000 < nodesT 0 t)

/-! ### how deep -/
mutual
def depthT : VT → Nat
  | .mk _ _ _ l _ => depthL l + 1
def depthL : List VT → Nat
  | [] => 0
  | t :: r => max (depthT t) (depthL r)
end

/-! ### a walk from above: a state, and whether it goes on -/
mutual
def walkT {σ : Type} (f : VT → Nat → σ → σ × Bool) : VT → Nat → σ → σ × Bool
  | .mk k i s l ns, d, st => if (f (.mk k i s l ns) d st).2 then walkL f l (d + 1) (f (.mk k i s l ns) d st).1 else ((f (.mk k i s l ns) d st).1, false)
def walkL {σ : Type} (f : VT → Nat → σ → σ × Bool) : List VT → Nat → σ → σ × Bool
  | [], _, st => (st, true)
  | t :: r, d, st => if (walkT f t d st).2 then walkL f r d (walkT f t d st).1 else ((walkT f t d st).1, false)
end

/-! ### names -/
def nameB (l : List UInt8) : Bool := decide (1 ≤ l.length ∧ l.length ≤ 32) && l.head? != some 36 && !(l.contains 46)
def distinctN : List ByteArray → Bool
  | [] => true
  | s :: r => nameB s.data.toList && !((r.map fun x => x.data.toList).contains s.data.toList) && distinctN r

/-! ### may it be -/
def fitsP (k i : Int) (s : ByteArray) (n : Nat) (ns : List ByteArray) : Bool :=
  if k = 1 then decide (i = 0) && decide (s.toList = []) && (n == 0 && ns.length == 0)
  else if k = 2 then (decide (i = 0) || decide (i = 1)) && decide (s.toList = []) && (n == 0 && ns.length == 0)
  else if k = 3 then decide (s.toList = []) && (n == 0 && ns.length == 0)
  else if k = 4 ∨ k = 5 then decide (i = 0) && (n == 0 && ns.length == 0)
  else if k = 6 then decide (i = 0) && decide (s.toList = []) && ns.length == 0
  else if k = 7 then decide (i = 0) && decide (s.toList = []) && ns.length == n && distinctN ns
  else false
def fitsT : VT → Bool
  | .mk k i s l ns => fitsP k i s l.length ns
mutual
def mayT : VT → Bool
  | .mk k i s l ns => fitsT (.mk k i s l ns) && mayL l
def mayL : List VT → Bool
  | [] => true
  | t :: r => mayT t && mayL r
end
end Go.Proofs.Yteakkbgfkcknlaa
