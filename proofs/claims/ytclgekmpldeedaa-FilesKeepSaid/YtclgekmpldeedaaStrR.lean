/- Which texts may be names, as the document's answer has it. -/
import Derived.Test.YtclgekmpldeedaaStr
namespace Go.Proofs.Ytclgekmpldeedaa
set_option linter.unusedVariables false
set_option linter.unusedSimpArgs false
open Go.RowKit

end Go.Proofs.Ytclgekmpldeedaa
