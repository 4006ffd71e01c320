/- A disk of files, plain: the files by their names, how much of each is sure, and the power; what each call makes of it. -/
import Derived.Test.YtclgekmpldeedaaRows
namespace Go.Proofs.Ytclgekmpldeedaa
set_option linter.unusedVariables false
set_option linter.unusedSimpArgs false

structure FileM where
  b : List UInt8
  sure : Nat
structure DiskM where
  fs : List UInt8 → Option FileM
  cnt : Nat
  left : Int
  torn : Int
  gone : Bool

def badNm (nm : List UInt8) : Bool := decide (nm.length < 1) || decide (24 < nm.length)
def DiskM.file (M : DiskM) (nm : List UInt8) : FileM := (M.fs nm).getD ⟨[], 0⟩
def DiskM.put (M : DiskM) (nm : List UInt8) (f : FileM) : DiskM := { M with fs := fun x => if x = nm then some f else M.fs x, cnt := if (M.fs nm).isSome then M.cnt else M.cnt + 1 }
def DiskM.del (M : DiskM) (nm : List UInt8) : DiskM := { M with fs := fun x => if x = nm then none else M.fs x, cnt := if (M.fs nm).isSome then M.cnt - 1 else M.cnt }
/-- One change is done. -/
def DiskM.spent (M : DiskM) : DiskM := { M with left := if 0 < M.left then M.left - 1 else M.left }
def DiskM.off (M : DiskM) : DiskM := { M with gone := true }

def DiskM.app (M : DiskM) (nm b : List UInt8) : Int × DiskM :=
  if M.gone then (90, M) else if badNm nm then (1, M)
  else if (M.fs nm).isNone && decide (M.cnt = 256) then (2, M)
  else if 1048576 < (M.file nm).b.length + b.length then (2, M)
  else if M.left = 0 then (90, (M.put nm ⟨(M.file nm).b ++ b.take M.torn.toNat, (M.file nm).sure⟩).off)
  else (0, (M.put nm ⟨(M.file nm).b ++ b, (M.file nm).sure⟩).spent)

def DiskM.snc (M : DiskM) (nm : List UInt8) : Int × DiskM :=
  if M.gone then (90, M) else if badNm nm then (1, M)
  else match M.fs nm with
    | none => (4, M)
    | some f => if M.left = 0 then (90, M.off) else (0, (M.put nm ⟨f.b, f.b.length⟩).spent)

def DiskM.read (M : DiskM) (nm : List UInt8) : List UInt8 × Int :=
  if M.gone then ([], 90) else if badNm nm then ([], 1)
  else match M.fs nm with
    | none => ([], 4)
    | some f => (f.b, 0)

def DiskM.stop (M : DiskM) (n torn : Int) : Int × DiskM :=
  if M.gone then (90, M) else if n < -1 ∨ torn < 0 then (1, M) else (0, { M with left := n, torn := torn })

/-- What the last Keep of a name says. -/
def keepOf (l : List (List UInt8 × Int)) (nm : List UInt8) : Int := l.foldl (fun n k => if k.1 = nm then k.2 else n) 0
def crashF (f : FileM) (n : Int) : FileM := ⟨f.b.take (f.sure + min (max n 0) ((f.b.length : Int) - f.sure)).toNat, (f.b.take (f.sure + min (max n 0) ((f.b.length : Int) - f.sure)).toNat).length⟩
def DiskM.crash (M : DiskM) (l : List (List UInt8 × Int)) : Int × DiskM :=
  if l.any (fun k => badNm k.1) then (1, M) else (0, ⟨fun nm => (M.fs nm).map fun f => crashF f (keepOf l nm), M.cnt, -1, 0, false⟩)

end Go.Proofs.Ytclgekmpldeedaa
