/- DateWeeks: the law. -/
import Derived.Test.YtmffagkgkbdkjaaDoorAwake
namespace Go.Proofs.YtmffagkgkbdkjaaDoor
set_option linter.unusedVariables false
open Go.ChangeShapes Go.WideShapes Go.ChangeAt Go.RowKit

theorem week_out (n : Int) (w : World) (hT : Tab w) (h : ¬ (-4371587 ≤ n ∧ n < 2932897)) :
    Calls Tryd.prog 9 #[.int .i64 n] w fun e w' => e = .returned (.tuple #[.int .i64 0, .int .i64 0, .int .i64 0, .int .i64 30]) ∧ w = w' := by
  have D := Lib.hid (fun w => date_err n w h)
  clear h hT
  go_enter Tryd.func9, Tryd.ntmps9
  go_wp2_with (go_at_call 28; (with_reducible refine (D.out _).mono ?_); rintro e w' ⟨rfl, rfl⟩)
  go_returns
  exact ⟨rfl, rfl⟩
namespace Cal
/-- A day's year of the week is one alone. -/
theorem op_mono (y z : Int) (h1 : -9999 ≤ y) (h2 : y < z) (h3 : z ≤ 10000) : op (y + 1) ≤ op z := by
  have e1 : start (y + 1) ≤ start z := by unfold start; omega
  have e2 : op (y + 1) = start (y + 1) + 3 - wd (start (y + 1) + 3) + 1 := rfl
  have e3 : op z = start z + 3 - wd (start z + 3) + 1 := rfl
  rcases (show y + 1 = z ∨ y + 1 < z by omega) with e | e
  · rw [e]; omega
  · have e4 : start (y + 1) + 365 ≤ start z := by unfold start; omega
    have := wd_bd (start (y + 1) + 3)
    have := wd_bd (start z + 3)
    omega
theorem op_one (y z n : Int) (hy : -9999 ≤ y) (hy' : y ≤ 9999) (hz : -9999 ≤ z) (hz' : z ≤ 9999) (a : op y ≤ n) (b : n < op (y + 1)) (c : op z ≤ n) (d : n < op (z + 1)) : y = z := by
  rcases (show y = z ∨ y < z ∨ z < y by omega) with e | e | e
  · exact e
  · have := op_mono y z hy e (by omega); omega
  · have := op_mono z y hz e (by omega); omega
theorem op_wd (y n : Int) : (n - op y) % 7 + 1 = wd n := by unfold op wd; omega
end Cal

/-- Week, where the year of the week is known. -/
theorem week_at (n Y : Int) (w : World) (hT : Tab w) (h1 : -9999 ≤ Y) (h2 : Y ≤ 9999) (a : Cal.op Y ≤ n) (b : n < Cal.op (Y + 1)) (c : -4371587 ≤ n) (d : n < 2932897) (c' : -4371587 ≤ n - Cal.wd n + 4) (d' : n - Cal.wd n + 4 < 2932897) :
    Calls Tryd.prog 9 #[.int .i64 n] w fun e w' => e = .returned (.tuple #[.int .i64 Y, .int .i64 ((n - Cal.op Y) / 7 + 1), .int .i64 (Cal.wd n), .int .i64 0]) ∧ w = w' := by
  rcases week_cases n (by omega) (by omega) with ⟨Z, z1, z2, s1, s2, a2, b2, -, -, H⟩ | ⟨x, H⟩
  · obtain rfl := Cal.op_one Y Z n h1 h2 z1 z2 a b a2 b2
    exact H.out w hT
  · exact absurd ⟨c, d, c', d'⟩ x
end Go.Proofs.YtmffagkgkbdkjaaDoor
