/- Another disk that is the same. -/
import Derived.Test.YtclgekmpldeedaaGreatKFlP
namespace Go.Proofs.YtclgekmpldeedaaGreat
set_option linter.unusedVariables false
set_option linter.unusedSimpArgs false
open Go.RowKit Go.Maps
set_option maxRecDepth 100000
section
variable {w : World} {Ft : Nat → Prop} {d m : Nat} {gs : List UInt8 → Option Nat} {rv : List UInt8 → Value} {D : DataW Unit} {M : DiskM}
end
end Go.Proofs.YtclgekmpldeedaaGreat
