/- Contract: odd (the law's). -/
import Derived.Test.YtkhnoikdfelheaaC1
namespace Go.Proofs.Ytkhnoikdfelheaa
set_option linter.unusedVariables false
set_option linter.unusedSimpArgs false
open Go.ChangeShapes Go.WideShapes Go.ChangeAt Go.RowKit

end Go.Proofs.Ytkhnoikdfelheaa
