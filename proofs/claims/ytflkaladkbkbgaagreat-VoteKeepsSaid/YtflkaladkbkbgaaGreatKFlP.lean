/- How many bytes a file has; another disk that is the same; what is said where there is no disk. -/
import Derived.Test.YtflkaladkbkbgaaGreatKFlO
import Derived.Lib.SlBytesConst
namespace Go.Proofs.YtflkaladkbkbgaaGreat
set_option linter.unusedVariables false
set_option linter.unusedSimpArgs false
open Go.RowKit Go.Maps
set_option maxRecDepth 100000
section
variable {w : World} {Ft : Nat → Prop} {d m : Nat} {gs : List UInt8 → Option Nat} {rv : List UInt8 → Value} {D : DataW Unit} {M : DiskM}
end
end Go.Proofs.YtflkaladkbkbgaaGreat

/- Another disk that is the same. -/
namespace Go.Proofs.YtflkaladkbkbgaaGreat
set_option linter.unusedVariables false
set_option linter.unusedSimpArgs false
open Go.RowKit Go.Maps
set_option maxRecDepth 100000
section
variable {w : World} {Ft : Nat → Prop} {d m : Nat} {gs : List UInt8 → Option Nat} {rv : List UInt8 → Value} {D : DataW Unit} {M : DiskM}
end
end Go.Proofs.YtflkaladkbkbgaaGreat

/- What must come of every program of the layer of files. -/
namespace Go.Proofs.YtflkaladkbkbgaaGreat
set_option linter.unusedVariables false
set_option linter.unusedSimpArgs false
open Go.RowKit Go.Maps
set_option maxRecDepth 100000
def dA1 : DiskM := (DiskM.new.app [102] [97, 98]).2
def dA2 : DiskM := (dA1.snc [102]).2
def dA3 : DiskM := (dA2.app [102] [99, 100]).2
def dA4 : DiskM := (dA3.crash [([102], 1)]).2
def dA5 : DiskM := (dA4.stop 0 1).2
def dA6 : DiskM := (dA5.app [102] [120, 121]).2
theorem lA1 : DiskM.new.app [102] [97, 98] = (0, dA1) := rfl
theorem lA2 : dA1.snc [102] = (0, dA2) := rfl
theorem lA3 : dA2.app [102] [99, 100] = (0, dA3) := rfl
theorem lA4 : dA3.crash [([102], 1)] = (0, dA4) := rfl
theorem lA5 : dA4.stop 0 1 = (0, dA5) := rfl
theorem lA6 : dA5.app [102] [120, 121] = (90, dA6) := rfl
theorem lR1 : dA4.read [102] = ([97, 98, 99], 0) := rfl
theorem lR2 : dA4.read [103] = ([], 4) := rfl
theorem lF4 : dA4.file [102] = ⟨[97, 98, 99], 3⟩ := rfl
theorem lC4 : dA4.cnt = 1 := rfl
theorem lG4 : dA4.gone = false := rfl
theorem lG6 : dA6.gone = true := rfl
theorem rd_two (w : World) (a b : UInt8) : Rd (w.alloc (.cells #[.int .u8 (a.toNat : Int), .int .u8 (b.toNat : Int)] 5 (2, 3))) (w.heap.size + 1) (.slice (some ⟨w.heap.size, 0, none⟩) 2 2) [a, b] := by
  have h := heap_alloc_new w (.cells #[.int .u8 (a.toNat : Int), .int .u8 (b.toNat : Int)] 5 (2, 3))
  refine ⟨some ⟨w.heap.size, 0, none⟩, 2, rfl, by simp, ⟨by decide, fun h => by cases h⟩, fun _ => ⟨w.heap.size, 0, rfl, by omega, fun i hi => ?_⟩⟩
  have hc := Go.Joins.cell_of_block h i
  match i, hi with
  | 0, _ => simpa using hc
  | 1, _ => simpa using hc
theorem cvk9 (w : World) (C : Array Value) (n c : Nat) : (convert 33 33 (.slice (some ⟨w.heap.size, 0, none⟩) n c)).run Tryz.prog (w.alloc (.cells C 5)) = .ok (.slice (some ⟨w.heap.size, 0, none⟩) n c) (w.alloc (.cells C 5 (C.size, C.size + 1))) :=
  Lib.run_convert_bytes_const (P := Tryz.prog) w 33 5 C n c Tryz.underlying33 Tryz.underlying5
theorem two_below (w : World) (o : Obj) : Below w.heap.size w (w.alloc o) := (Below.refl _ _).alloc (Nat.le_refl _) _
theorem keeps_one (w : World) (s : ByteArray) (n : Int) (hs : s.size ≤ 140737488351232) (hn : -9223372036854775808 ≤ n ∧ n ≤ 9223372036854775807) :
    KeepsAt (w.alloc (.cells #[.string s, .int .i64 n] 64)) (fun b => b = w.heap.size) (some ⟨w.heap.size, 0, none⟩) [(s, n)] := by
  have h := heap_alloc_new w (.cells #[.string s, .int .i64 n] 64)
  exact fun _ => ⟨w.heap.size, 0, rfl, rfl, fun i hi => by
    have : i = 0 := by simp at hi; omega
    subst this
    exact ⟨Go.Joins.cell_of_block h 0, Go.Joins.cell_of_block h 1, hs, hn⟩⟩
theorem sizeF1 : (⟨#[102]⟩ : ByteArray).size = 1 := rfl
theorem sizeF2 : (⟨#[103]⟩ : ByteArray).size = 1 := rfl
/-- A disk, and what was there ahead of it stays. -/
structure Live (W w : World) (d : Nat) (M : DiskM) where
  Ft : Nat → Prop
  at_ : DAt w Ft d M
  base : ∀ k, Ft k → W.heap.size ≤ k
  below : Below W.heap.size W w
theorem Live.step {W w w' : World} {d : Nat} {M M' : DiskM} (h : Live W w d M) {r : Int} {e : Ending} (ha : AppR w h.Ft d (r, M') e w') : e = .returned (.int .i64 r) ∧ Nonempty (Live W w' d M') := by
  obtain ⟨he, Ft', hg, hd⟩ := ha
  exact ⟨he, ⟨⟨Ft', hd, hg.base h.below.size h.base, h.below.trans (hg.below h.below.size h.base)⟩⟩⟩
theorem Live.stay {W w w' : World} {d : Nat} {M : DiskM} (h : Live W w d M) (hb : Below w.heap.size w w') : Nonempty (Live W w' d M) := ⟨⟨h.Ft, h.at_.below hb, h.base, h.below.trans (hb.mono h.below.size)⟩⟩
end Go.Proofs.YtflkaladkbkbgaaGreat
