/- Shelf in one. -/
import Derived.Test.YtimjendkpjojoaaGreatDoorKc
import Derived.Test.YtimjendkpjojoaaGreatDoorKv
import Derived.Lib.Strings
import Derived.Lib.Slices
import Derived.Lib.Walk
import Derived.Lib.LaidTab
namespace Go.Proofs.YtimjendkpjojoaaGreatDoor


end Go.Proofs.YtimjendkpjojoaaGreatDoor
