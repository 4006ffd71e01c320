/- A source begun, and moved on by a function that tells how far. -/
import Derived.Test.YtclgekmpldeedaaVarD
namespace Go.Proofs.Ytclgekmpldeedaa
set_option linter.unusedVariables false
set_option linter.unusedSimpArgs false
open Go.RowKit



/-- A call of function k through a value enters it. -/
def Enters (k : Nat) : Prop := ∀ (args : Array Value) (W : World), (callFunc k args).run Try.prog W = .ok (.enter k args) W


end Go.Proofs.Ytclgekmpldeedaa
