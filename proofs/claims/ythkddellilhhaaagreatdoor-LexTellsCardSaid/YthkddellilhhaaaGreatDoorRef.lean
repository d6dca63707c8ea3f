/- Contracts of the document's own answer for layer 3, and the walk of the law CivilTells. -/
import Derived.Test.YthkddellilhhaaaGreatDoorFn3
namespace Go.Proofs.YthkddellilhhaaaGreatDoor
set_option linter.unusedVariables false
open Go.ChangeShapes Go.WideShapes Go.ChangeAt Go.RowKit

theorem rleap_any (y : Int) (w : World) :
    Calls Tryz.prog 82 #[.int .i64 y] w fun e w' => e = .returned (.bool (Cal.leap y)) ∧ w = w' := by
  have e4 := tmod_iff y 4 (by omega)
  have e100 := tmod_iff y 100 (by omega)
  have e400 := tmod_iff y 400 (by omega)
  by_cases c400 : y.tmod 400 = 0
  · have L := Lib.hid (show Cal.leap y = true by unfold Cal.leap; simp; omega)
    have d400 : (y.tmod 400 == 0) = true := by simpa using c400
    clear e4 e100 e400 c400
    go_enter Tryz.func82, Tryz.ntmps82
    go_wp2
    go_returns
    exact ⟨ret_bool L.out.symm, rfl⟩
  · have d400 : (y.tmod 400 == 0) = false := by simpa using c400
    by_cases c4 : y.tmod 4 = 0
    · have d4 : (y.tmod 4 == 0) = true := by simpa using c4
      by_cases c100 : y.tmod 100 = 0
      · have L := Lib.hid (show Cal.leap y = false by unfold Cal.leap; simp; omega)
        have d100 : (y.tmod 100 != 0) = false := by simpa using c100
        clear e4 e100 e400 c400 c4 c100
        go_enter Tryz.func82, Tryz.ntmps82
        go_wp2
        go_returns
        exact ⟨ret_bool L.out.symm, rfl⟩
      · have L := Lib.hid (show Cal.leap y = true by unfold Cal.leap; simp; omega)
        have d100 : (y.tmod 100 != 0) = true := by simpa using c100
        clear e4 e100 e400 c400 c4 c100
        go_enter Tryz.func82, Tryz.ntmps82
        go_wp2
        go_returns
        exact ⟨ret_bool L.out.symm, rfl⟩
    · have L := Lib.hid (show Cal.leap y = false by unfold Cal.leap; simp; omega)
      have d : (y.tmod 4 == 0) = false := by simpa using c4
      clear e4 e100 e400 c400 c4
      go_enter Tryz.func82, Tryz.ntmps82
      go_wp2
      go_returns
      exact ⟨ret_bool L.out.symm, rfl⟩
theorem rleap_yes (y : Int) (w : World) (h : Cal.leap y = true) :
    Calls Tryz.prog 82 #[.int .i64 y] w fun e w' => e = .returned (.bool true) ∧ w = w' := by
  have := rleap_any y w
  rw [h] at this
  exact this
theorem rleap_no (y : Int) (w : World) (h : Cal.leap y = false) :
    Calls Tryz.prog 82 #[.int .i64 y] w fun e w' => e = .returned (.bool false) ∧ w = w' := by
  have := rleap_any y w
  rw [h] at this
  exact this

theorem whole_any (y : Int) (w : World) :
    Calls Tryz.prog 81 #[.int .i64 y] w fun e w' => e = .returned (.int .i64 (365 + Cal.lp y)) ∧ w = w' := by
  have l := Cal.lp_leap y
  by_cases cl : Cal.leap y = true
  · have CL := Lib.hid cl
    rw [cl] at l
    have L := Lib.hid (show 366 = 365 + Cal.lp y by rw [l]; rfl)
    clear cl l
    go_enter Tryz.func81, Tryz.ntmps81
    go_wp2_with (go_at_call 82; (with_reducible refine (rleap_yes _ _ CL.out).mono ?_); rintro e w' ⟨rfl, rfl⟩)
    go_returns
    exact ⟨ret_int L.out, rfl⟩
  · have cl : Cal.leap y = false := by simpa using cl
    have CL := Lib.hid cl
    rw [cl] at l
    have L := Lib.hid (show 365 = 365 + Cal.lp y by rw [l]; rfl)
    clear cl l
    go_enter Tryz.func81, Tryz.ntmps81
    go_wp2_with (go_at_call 82; (with_reducible refine (rleap_no _ _ CL.out).mono ?_); rintro e w' ⟨rfl, rfl⟩)
    go_returns
    exact ⟨ret_int L.out, rfl⟩

theorem rweekday_any (n : Int) (w : World) :
    Calls Tryz.prog 83 #[.int .i64 n] w fun e w' => e = .returned (.int .i64 (Cal.wd n)) ∧ w = w' := by
  have e := Int.tmod_eq_emod (a := n) (b := 7)
  have b1 : -6 ≤ n.tmod 7 := by have := Int.lt_tmod_of_pos n (show (0 : Int) < 7 by omega); omega
  have b2 : n.tmod 7 ≤ 6 := by have := Int.tmod_lt_of_pos n (show (0 : Int) < 7 by omega); omega
  by_cases c : n.tmod 7 < 0
  · have F := Lib.hid (show (n.tmod 7 + 7 + 3) % 7 + 1 = Cal.wd n by unfold Cal.wd; split at e <;> omega)
    clear e
    go_enter Tryz.func83, Tryz.ntmps83
    go_wp2
    go_returns
    exact ⟨ret_int F.out, rfl⟩
  · have F := Lib.hid (show (n.tmod 7 + 3) % 7 + 1 = Cal.wd n by unfold Cal.wd; split at e <;> omega)
    clear e
    go_enter Tryz.func83, Tryz.ntmps83
    go_wp2
    go_returns
    exact ⟨ret_int F.out, rfl⟩

set_option maxHeartbeats 1000000 in
theorem rlength_any (y m : Int) (w : World) :
    Calls Tryz.prog 59 #[.int .i64 y, .int .i64 m] w fun e w' => e = .returned (.int .i64 (Cal.len y m)) ∧ w = w' := by
  have l := Cal.lp_leap y
  by_cases c : 1 ≤ m ∧ m ≤ 12
  · have hm : m = 1 ∨ m = 2 ∨ m = 3 ∨ m = 4 ∨ m = 5 ∨ m = 6 ∨ m = 7 ∨ m = 8 ∨ m = 9 ∨ m = 10 ∨ m = 11 ∨ m = 12 := by omega
    clear c
    rcases hm with rfl | rfl | rfl | rfl | rfl | rfl | rfl | rfl | rfl | rfl | rfl | rfl
    case inr.inl =>
      by_cases cl : Cal.leap y = true
      · have CL := Lib.hid cl
        rw [cl] at l
        have L := Lib.hid (show 29 = Cal.len y 2 by unfold Cal.len Cal.bef; rw [l]; rfl)
        clear cl l
        go_enter Tryz.func59, Tryz.ntmps59
        go_wp2_with (go_at_call 82; (with_reducible refine (rleap_yes _ _ CL.out).mono ?_); rintro e w' ⟨rfl, rfl⟩)
        go_returns
        exact ⟨ret_int L.out, rfl⟩
      · have cl : Cal.leap y = false := by simpa using cl
        have CL := Lib.hid cl
        rw [cl] at l
        have L := Lib.hid (show 28 = Cal.len y 2 by unfold Cal.len Cal.bef; rw [l]; rfl)
        clear cl l
        go_enter Tryz.func59, Tryz.ntmps59
        go_wp2_with (go_at_call 82; (with_reducible refine (rleap_no _ _ CL.out).mono ?_); rintro e w' ⟨rfl, rfl⟩)
        go_returns
        exact ⟨ret_int L.out, rfl⟩
    all_goals
      clear l
      go_enter Tryz.func59, Tryz.ntmps59
      go_wp2
      go_returns
      refine ⟨ret_int ?_, rfl⟩
      unfold Cal.len Cal.bef
      simp
      try omega
  · have R := Lib.hid (Cal.len_out y m c)
    have hm : m < 1 ∨ 12 < m := by omega
    clear c l
    rcases hm with h | h
    all_goals
      go_enter Tryz.func59, Tryz.ntmps59
      go_wp2
      go_returns
      exact ⟨ret_int R.out.symm, rfl⟩
end Go.Proofs.YthkddellilhhaaaGreatDoor
