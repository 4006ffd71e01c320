/- Which texts may be names, as the document has it: told beside the lists of texts. -/
import Derived.Test.YtopmeoonepkodaaKVal
import Derived.Test.YtopmeoonepkodaaKMath
namespace Go.Proofs.Ytopmeoonepkodaa
set_option linter.unusedVariables false
set_option linter.unusedSimpArgs false
end Go.Proofs.Ytopmeoonepkodaa
