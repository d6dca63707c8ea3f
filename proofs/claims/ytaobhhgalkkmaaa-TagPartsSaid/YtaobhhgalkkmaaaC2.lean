/- Contract: odd (the law's). -/
import Derived.Test.YtaobhhgalkkmaaaC1
namespace Go.Proofs.Ytaobhhgalkkmaaa
set_option linter.unusedVariables false
set_option linter.unusedSimpArgs false
open Go.ChangeShapes Go.WideShapes Go.ChangeAt Go.RowKit

end Go.Proofs.Ytaobhhgalkkmaaa
