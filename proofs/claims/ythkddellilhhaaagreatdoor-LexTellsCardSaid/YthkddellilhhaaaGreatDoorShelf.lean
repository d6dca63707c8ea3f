/- The library's contracts. -/
import Derived.Test.YthkddellilhhaaaGreatDoorLai
import Derived.Test.YthkddellilhhaaaGreatDoorNums
import Derived.Lib.Strings
import Derived.Lib.Slices
import Derived.Lib.Walk
