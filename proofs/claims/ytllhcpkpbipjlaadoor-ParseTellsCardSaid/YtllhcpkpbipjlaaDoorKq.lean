/- Weeks in one. -/
import Derived.Test.YtllhcpkpbipjlaaDoorKe
namespace Go.Proofs.YtllhcpkpbipjlaaDoor
set_option linter.unusedVariables false
open Go.ChangeShapes Go.WideShapes Go.ChangeAt Go.RowKit

namespace Cal
/-- A day's year of the week is one alone. -/
theorem op_mono (y z : Int) (h1 : -9999 ≤ y) (h2 : y < z) (h3 : z ≤ 10000) : op (y + 1) ≤ op z := by
  have e1 : start (y + 1) ≤ start z := by unfold start; omega
  have e2 : op (y + 1) = start (y + 1) + 3 - wd (start (y + 1) + 3) + 1 := rfl
  have e3 : op z = start z + 3 - wd (start z + 3) + 1 := rfl
  rcases (show y + 1 = z ∨ y + 1 < z by omega) with e | e
  · rw [e]; omega
  · have e4 : start (y + 1) + 365 ≤ start z := by unfold start; omega
    have := wd_bd (start (y + 1) + 3)
    have := wd_bd (start z + 3)
    omega
theorem op_one (y z n : Int) (hy : -9999 ≤ y) (hy' : y ≤ 9999) (hz : -9999 ≤ z) (hz' : z ≤ 9999) (a : op y ≤ n) (b : n < op (y + 1)) (c : op z ≤ n) (d : n < op (z + 1)) : y = z := by
  rcases (show y = z ∨ y < z ∨ z < y by omega) with e | e | e
  · exact e
  · have := op_mono y z hy e (by omega); omega
  · have := op_mono z y hz e (by omega); omega
theorem op_wd (y n : Int) : (n - op y) % 7 + 1 = wd n := by unfold op wd; omega
end Cal

end Go.Proofs.YtllhcpkpbipjlaaDoor
