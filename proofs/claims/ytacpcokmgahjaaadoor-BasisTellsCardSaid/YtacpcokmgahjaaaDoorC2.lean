/- Contract: odd (the law's). -/
import Derived.Test.YtacpcokmgahjaaaDoorC1
namespace Go.Proofs.YtacpcokmgahjaaaDoor
set_option linter.unusedVariables false
set_option linter.unusedSimpArgs false
open Go.ChangeShapes Go.WideShapes Go.ChangeAt Go.RowKit

end Go.Proofs.YtacpcokmgahjaaaDoor
