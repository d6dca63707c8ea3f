/- Contracts of the document's own answer for layer 4: weeks, days of the year. -/
import Derived.Test.YthkddellilhhaaaGreatDoorRd
import Derived.Test.YthkddellilhhaaaGreatDoorWeeks
import Derived.Test.YthkddellilhhaaaGreatDoorRef2
namespace Go.Proofs.YthkddellilhhaaaGreatDoor
set_option linter.unusedVariables false
set_option linter.unusedSimpArgs false
open Go.ChangeShapes Go.WideShapes Go.ChangeAt Go.RowKit

theorem inside_yes (y : Int) (w : World) (h1 : -9999 ≤ y) (h2 : y ≤ 9999) :
    Calls Tryz.prog 60 #[.int .i64 y] w fun e w' => e = .returned (.bool true) ∧ w = w' := by
  go_enter Tryz.func60, Tryz.ntmps60
  go_wp2
  go_returns
  exact ⟨rfl, rfl⟩
theorem inside_no (y : Int) (w : World) (h : ¬ (-9999 ≤ y ∧ y ≤ 9999)) :
    Calls Tryz.prog 60 #[.int .i64 y] w fun e w' => e = .returned (.bool false) ∧ w = w' := by
  by_cases c : y < -9999
  · have d : decide (-9999 ≤ y) = false := by simp; omega
    clear h c
    go_enter Tryz.func60, Tryz.ntmps60
    go_wp2
    go_returns
    exact ⟨rfl, rfl⟩
  · have d : decide (-9999 ≤ y) = true := by simp; omega
    have d2 : decide (y ≤ 9999) = false := by simp; omega
    clear h c
    go_enter Tryz.func60, Tryz.ntmps60
    go_wp2
    go_returns
    exact ⟨rfl, rfl⟩

/-- The Monday of a year's first week. -/
theorem rfirst_in (y : Int) (w : World) (h1 : -9999 ≤ y) (h2 : y ≤ 9999) :
    Calls Tryz.prog 61 #[.int .i64 y] w fun e w' => e = .returned (.int .i64 (Cal.op y)) ∧ w = w' := by
  have I := Lib.hid (fun w => inside_yes y w h1 h2)
  have D := fun w => rdays_valid y 1 4 w (Cal.valid_day y 4 h1 h2 (by omega) (by omega))
  simp only [Cal.fourth] at D
  have D := Lib.hid D
  have s := Cal.start_bd y h1 (by omega)
  have wb := Cal.wd_bd (Cal.start y + 3)
  have R := Lib.hid (show Cal.start y + 3 - Cal.wd (Cal.start y + 3) + 1 = Cal.op y from rfl)
  obtain ⟨s1, s2⟩ := s
  obtain ⟨wb1, wb2⟩ := wb
  go_enter Tryz.func61, Tryz.ntmps61
  go_wp2_with (first
    | (go_at_call 60; (with_reducible refine (I.out _).mono ?_); rintro e w' ⟨rfl, rfl⟩)
    | (go_at_call 52; (with_reducible refine (D.out _).mono ?_); rintro e w' ⟨rfl, rfl⟩)
    | (go_at_call 83; (with_reducible refine (rweekday_any _ _).mono ?_); rintro e w' ⟨rfl, rfl⟩))
  go_returns
  exact ⟨ret_int R.out, rfl⟩
theorem rfirst_end (w : World) :
    Calls Tryz.prog 61 #[.int .i64 10000] w fun e w' => e = .returned (.int .i64 (Cal.op 10000)) ∧ w = w' := by
  have I := Lib.hid (fun w => inside_no 10000 w (by omega))
  have D : ∀ w, Calls Tryz.prog 52 #[.int .i64 9999, .int .i64 12, .int .i64 31] w fun e w' => e = .returned (.tuple #[.int .i64 2932896, .int .i64 0]) ∧ w = w' := by
    intro w
    have h := rdays_valid 9999 12 31 w (Cal.valid_dec 9999 31 (by omega) (by omega) (by omega) (by omega))
    rw [show Cal.num 9999 12 31 = 2932896 by decide] at h
    exact h
  have D := Lib.hid D
  have W : ∀ w, Calls Tryz.prog 83 #[.int .i64 2932900] w fun e w' => e = .returned (.int .i64 2) ∧ w = w' := by
    intro w
    have h := rweekday_any 2932900 w
    rw [show Cal.wd 2932900 = 2 by decide] at h
    exact h
  have W := Lib.hid W
  rw [show Cal.op 10000 = 2932899 by decide]
  go_enter Tryz.func61, Tryz.ntmps61
  go_wp2_with (first
    | (go_at_call 60; (with_reducible refine (I.out _).mono ?_); rintro e w' ⟨rfl, rfl⟩)
    | (go_at_call 52; (with_reducible refine (D.out _).mono ?_); rintro e w' ⟨rfl, rfl⟩)
    | (go_at_call 83; (with_reducible refine (W.out _).mono ?_); rintro e w' ⟨rfl, rfl⟩))
  go_returns
  exact ⟨rfl, rfl⟩
theorem rfirst_any (y : Int) (w : World) (h1 : -9999 ≤ y) (h2 : y ≤ 10000) :
    Calls Tryz.prog 61 #[.int .i64 y] w fun e w' => e = .returned (.int .i64 (Cal.op y)) ∧ w = w' := by
  by_cases c : y = 10000
  · subst c; exact rfirst_end w
  · exact rfirst_in y w h1 (by omega)

theorem rnth_ok (y m d : Int) (w : World) (v : Cal.Valid y m d) :
    Calls Tryz.prog 42 #[.int .i64 (Cal.num y m d)] w fun e w' => e = .returned (.tuple #[.int .i64 y, .int .i64 (Cal.num y m d - Cal.start y + 1), .int .i64 0]) ∧ w = w' := by
  have D := Lib.hid (fun w => rdate_num y m d w v)
  have D1 := fun w => rdays_valid y 1 1 w (Cal.valid_day y 1 v.y1 v.y2 (by omega) (by omega))
  simp only [Cal.first] at D1
  have D1 := Lib.hid D1
  have r := v.range
  have wi := v.within
  have s := Cal.start_bd y v.y1 (by have := v.y2; omega)
  generalize Cal.num y m d = n at *
  obtain ⟨r1, r2⟩ := r
  obtain ⟨s1, s2⟩ := s
  have w1 := wi.1
  clear v wi
  go_enter Tryz.func42, Tryz.ntmps42
  go_wp2_with (first
    | (go_at_call 39; (with_reducible refine (D.out _).mono ?_); rintro e w' ⟨rfl, rfl⟩)
    | (go_at_call 52; (with_reducible refine (D1.out _).mono ?_); rintro e w' ⟨rfl, rfl⟩))
  go_returns
  exact ⟨rfl, rfl⟩
theorem rnth_no (n : Int) (w : World) (h : ¬ (-4371587 ≤ n ∧ n < 2932897)) :
    Calls Tryz.prog 42 #[.int .i64 n] w fun e w' => e = .returned (.tuple #[.int .i64 0, .int .i64 0, .int .i64 30]) ∧ w = w' := by
  have D := Lib.hid (fun w => rdate_err n w h)
  clear h
  go_enter Tryz.func42, Tryz.ntmps42
  go_wp2_with (go_at_call 39; (with_reducible refine (D.out _).mono ?_); rintro e w' ⟨rfl, rfl⟩)
  go_returns
  exact ⟨rfl, rfl⟩
end Go.Proofs.YthkddellilhhaaaGreatDoor
