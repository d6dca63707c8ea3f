/- The library's contracts. -/
import Derived.Test.YthkddellilhhaaaDoorLai
import Derived.Test.YthkddellilhhaaaDoorNums
import Derived.Lib.Strings
import Derived.Lib.Slices
import Derived.Lib.Walk
