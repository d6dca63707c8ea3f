/- Contracts of the functions of package civil. -/
import Derived.Test.YthkddellilhhaaaGreatDoorRows
import Derived.Test.YthkddellilhhaaaGreatDoorPlain
import Derived.WalkKit
import Derived.ProofKit
import Derived.OpenShut
import Derived.Outline
import Derived.Handy
import Derived.Deep.QuietTactic
import Derived.BigQuiet
import Derived.Lib.Hide
import Derived.Deep.DeepFit
namespace Go.Proofs.YthkddellilhhaaaGreatDoor
set_option linter.unusedVariables false
open Go.ChangeShapes Go.WideShapes Go.ChangeAt Go.RowKit

theorem ret_int {k : IntKind} {a b : Int} (h : a = b) : Ending.returned (.int k a) = .returned (.int k b) := by rw [h]
theorem ret_bool {a b : Bool} (h : a = b) : Ending.returned (.bool a) = .returned (.bool b) := by rw [h]
theorem ret_int2 {k l : IntKind} {a b c d : Int} (h : a = b) (h' : c = d) : Ending.returned (.tuple #[.int k a, .int l c]) = .returned (.tuple #[.int k b, .int l d]) := by rw [h, h']

/-- The table of the days ahead of each month, as it lies in memory. -/
def Tab (w : World) : Prop := ∀ i : Nat, i < 13 → w.cell? ⟨0, i, none⟩ = some (.int .i64 (Cal.cum ((i : Int) + 1)))

theorem tmod_iff (y k : Int) (hk : 0 < k) : y.tmod k = 0 ↔ y % k = 0 :=
  ⟨fun h => Int.emod_eq_zero_of_dvd (Int.dvd_of_tmod_eq_zero h), fun h => Int.tmod_eq_zero_of_dvd (Int.dvd_of_emod_eq_zero h)⟩

theorem leap_any (y : Int) (w : World) :
    Calls Tryz.prog 73 #[.int .i64 y] w fun e w' => e = .returned (.bool (Cal.leap y)) ∧ w = w' := by
  have e4 := tmod_iff y 4 (by omega)
  have e100 := tmod_iff y 100 (by omega)
  have e400 := tmod_iff y 400 (by omega)
  by_cases c4 : y.tmod 4 = 0
  · have d4 : (y.tmod 4 == 0) = true := by simpa using c4
    by_cases c100 : y.tmod 100 = 0
    · have d100 : (y.tmod 100 != 0) = false := by simpa using c100
      by_cases c400 : y.tmod 400 = 0
      · have L := Lib.hid (show Cal.leap y = true by unfold Cal.leap; simp; omega)
        have d400 : (y.tmod 400 == 0) = true := by simpa using c400
        clear e4 e100 e400 c4 c100 c400
        go_enter Tryz.func73, Tryz.ntmps73
        go_wp2
        go_returns
        exact ⟨ret_bool L.out.symm, rfl⟩
      · have L := Lib.hid (show Cal.leap y = false by unfold Cal.leap; simp; omega)
        have d400 : (y.tmod 400 == 0) = false := by simpa using c400
        clear e4 e100 e400 c4 c100 c400
        go_enter Tryz.func73, Tryz.ntmps73
        go_wp2
        go_returns
        exact ⟨ret_bool L.out.symm, rfl⟩
    · have L := Lib.hid (show Cal.leap y = true by unfold Cal.leap; simp; omega)
      have d100 : (y.tmod 100 != 0) = true := by simpa using c100
      clear e4 e100 e400 c4 c100
      go_enter Tryz.func73, Tryz.ntmps73
      go_wp2
      go_returns
      exact ⟨ret_bool L.out.symm, rfl⟩
  · have L := Lib.hid (show Cal.leap y = false by unfold Cal.leap; simp; omega)
    have d : (y.tmod 4 == 0) = false := by simpa using c4
    clear e4 e100 e400 c4
    go_enter Tryz.func73, Tryz.ntmps73
    go_wp2
    go_returns
    exact ⟨ret_bool L.out.symm, rfl⟩
theorem leap_yes (y : Int) (w : World) (h : Cal.leap y = true) :
    Calls Tryz.prog 73 #[.int .i64 y] w fun e w' => e = .returned (.bool true) ∧ w = w' := by
  have := leap_any y w
  rw [h] at this
  exact this
theorem leap_no (y : Int) (w : World) (h : Cal.leap y = false) :
    Calls Tryz.prog 73 #[.int .i64 y] w fun e w' => e = .returned (.bool false) ∧ w = w' := by
  have := leap_any y w
  rw [h] at this
  exact this

theorem start_any (y : Int) (w : World) (h1 : -10000 ≤ y) (h2 : y ≤ 10001) :
    Calls Tryz.prog 53 #[.int .i64 y] w fun e w' => e = .returned (.int .i64 (Cal.start y)) ∧ w = w' := by
  go_enter Tryz.func53, Tryz.ntmps53
  go_wp2
  go_returns
  exact ⟨ret_int (by unfold Cal.start; omega), rfl⟩

theorem weekday_any (n : Int) (w : World) :
    Calls Tryz.prog 122 #[.int .i64 n] w fun e w' => e = .returned (.int .i64 (Cal.wd n)) ∧ w = w' := by
  have e := Int.tmod_eq_emod (a := n) (b := 7)
  have b1 : -6 ≤ n.tmod 7 := by have := Int.lt_tmod_of_pos n (show (0 : Int) < 7 by omega); omega
  have b2 : n.tmod 7 ≤ 6 := by have := Int.tmod_lt_of_pos n (show (0 : Int) < 7 by omega); omega
  have f : (n.tmod 7 + 7 + 3) % 7 + 1 = Cal.wd n := by
    unfold Cal.wd
    split at e <;> omega
  have F := Lib.hid f
  clear e f
  go_enter Tryz.func122, Tryz.ntmps122
  go_wp2
  go_returns
  exact ⟨ret_int F.out, rfl⟩

theorem before_any (y m : Int) (w : World) (hT : Tab w) (h1 : 1 ≤ m) (h2 : m ≤ 13) :
    Calls Tryz.prog 54 #[.int .i64 y, .int .i64 m] w fun e w' => e = .returned (.int .i64 (Cal.bef y m)) ∧ w = w' := by
  have hc : w.cell? ⟨0, m.toNat - 1, none⟩ = some (.int .i64 (Cal.cum m)) := by
    have := hT (m.toNat - 1) (by omega)
    rw [this]
    congr 3
    omega
  have cb : 0 ≤ Cal.cum m ∧ Cal.cum m ≤ 365 := by unfold Cal.cum; split <;> omega
  obtain ⟨cb1, cb2⟩ := cb
  have HT := Lib.hid hT
  clear hT
  by_cases c2 : 2 < m
  · by_cases cl : Cal.leap y = true
    · have R := Lib.hid (show Cal.cum m + 1 = Cal.bef y m by unfold Cal.cum Cal.bef; rw [Cal.lp_leap, cl]; simp [c2]; omega)
      have CL := Lib.hid cl
      clear cl
      go_enter Tryz.func54, Tryz.ntmps54
      go_wp2_with (go_at_call 73; (with_reducible refine (leap_yes _ _ CL.out).mono ?_); rintro e w' ⟨rfl, rfl⟩)
      go_returns
      exact ⟨ret_int R.out, rfl⟩
    · have cl : Cal.leap y = false := by simpa using cl
      have R := Lib.hid (show Cal.cum m = Cal.bef y m by unfold Cal.cum Cal.bef; rw [Cal.lp_leap, cl]; simp [c2])
      have CL := Lib.hid cl
      clear cl
      go_enter Tryz.func54, Tryz.ntmps54
      go_wp2_with (go_at_call 73; (with_reducible refine (leap_no _ _ CL.out).mono ?_); rintro e w' ⟨rfl, rfl⟩)
      go_returns
      exact ⟨ret_int R.out, rfl⟩
  · have R := Lib.hid (show Cal.cum m = Cal.bef y m by unfold Cal.cum Cal.bef; simp [c2])
    go_enter Tryz.func54, Tryz.ntmps54
    go_wp2
    go_returns
    exact ⟨ret_int R.out, rfl⟩

theorem length_any (y m : Int) (w : World) (hT : Tab w) :
    Calls Tryz.prog 111 #[.int .i64 y, .int .i64 m] w fun e w' => e = .returned (.int .i64 (Cal.len y m)) ∧ w = w' := by
  by_cases c : 1 ≤ m ∧ m ≤ 12
  · obtain ⟨c1, c2⟩ := c
    have b1 := Cal.bef_bd y (m + 1) (by omega) (by omega)
    have b2 := Cal.bef_bd y m (by omega) (by omega)
    have B1 := Lib.hid (fun w hT => before_any y (m + 1) w hT (by omega) (by omega))
    have B2 := Lib.hid (fun w hT => before_any y m w hT (by omega) (by omega))
    have R := Lib.hid (Cal.len_is y m c1 c2)
    have HT := Lib.hid hT
    clear hT
    obtain ⟨b3, b4⟩ := b1
    obtain ⟨b5, b6⟩ := b2
    go_enter Tryz.func111, Tryz.ntmps111
    go_wp2_with (first | (go_at_call 54; (with_reducible refine (B1.out _ HT.out).mono ?_); rintro e w' ⟨rfl, rfl⟩) | (go_at_call 54; (with_reducible refine (B2.out _ HT.out).mono ?_); rintro e w' ⟨rfl, rfl⟩))
    go_returns
    exact ⟨ret_int R.out.symm, rfl⟩
  · have R := Lib.hid (Cal.len_out y m c)
    clear hT
    by_cases c1 : m < 1
    · clear c
      go_enter Tryz.func111, Tryz.ntmps111
      go_wp2
      go_returns
      exact ⟨ret_int R.out.symm, rfl⟩
    · have c2 : 12 < m := by omega
      clear c
      go_enter Tryz.func111, Tryz.ntmps111
      go_wp2
      go_returns
      exact ⟨ret_int R.out.symm, rfl⟩
end Go.Proofs.YthkddellilhhaaaGreatDoor
