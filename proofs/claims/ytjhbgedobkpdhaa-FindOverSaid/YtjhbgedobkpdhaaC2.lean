/- Contract: odd (the law's). -/
import Derived.Test.YtjhbgedobkpdhaaC1
namespace Go.Proofs.Ytjhbgedobkpdhaa
set_option linter.unusedVariables false
set_option linter.unusedSimpArgs false
open Go.ChangeShapes Go.WideShapes Go.ChangeAt Go.RowKit

end Go.Proofs.Ytjhbgedobkpdhaa
