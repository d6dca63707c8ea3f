/- Contracts of the document's own answer for layer 4: OfNth, OfWeek, Week. -/
import Derived.Test.YthkddellilhhaaaGreatDoorR1
namespace Go.Proofs.YthkddellilhhaaaGreatDoor
set_option linter.unusedVariables false
set_option linter.unusedSimpArgs false
open Go.ChangeShapes Go.WideShapes Go.ChangeAt Go.RowKit

end Go.Proofs.YthkddellilhhaaaGreatDoor
