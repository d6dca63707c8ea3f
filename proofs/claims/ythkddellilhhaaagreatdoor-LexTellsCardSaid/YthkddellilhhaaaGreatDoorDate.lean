/- Contracts of package date: weeks of a year, days of a year. -/
import Derived.Test.YthkddellilhhaaaGreatDoorFn3
namespace Go.Proofs.YthkddellilhhaaaGreatDoor
set_option linter.unusedVariables false
open Go.ChangeShapes Go.WideShapes Go.ChangeAt Go.RowKit

theorem ret_int3' {k l m : IntKind} {a b c d f g : Int} (h : a = b) (h' : c = d) (h'' : f = g) : Ending.returned (.tuple #[.int k a, .int l c, .int m f]) = .returned (.tuple #[.int k b, .int l d, .int m g]) := by rw [h, h', h'']
theorem ret_int4' {k l m n : IntKind} {a b c d f g i j : Int} (h : a = b) (h' : c = d) (h'' : f = g) (h3 : i = j) : Ending.returned (.tuple #[.int k a, .int l c, .int m f, .int n i]) = .returned (.tuple #[.int k b, .int l d, .int m g, .int n j]) := by rw [h, h', h'', h3]

namespace Cal
/-- The Monday of a year's first week. -/
def op (y : Int) : Int := start y + 3 - wd (start y + 3) + 1
def cov (y : Int) : Bool := decide (-9999 ≤ y ∧ y ≤ 9999)
/-- How many weeks a year has. -/
def weeks (y : Int) : Int := if -9999 ≤ y ∧ y ≤ 9999 then (if wd (start y) = 4 ∨ wd (start (y + 1) - 1) = 4 then 53 else 52) else 0
theorem fourth (y : Int) : num y 1 4 = start y + 3 := by unfold num; rw [bef_one]; omega
theorem first (y : Int) : num y 1 1 = start y := by unfold num; rw [bef_one]; omega
theorem last (y : Int) : num y 12 31 = start (y + 1) - 1 := by
  have := lp_01 y
  rw [start_succ]
  unfold num bef
  simp
  omega
theorem last28 (y : Int) : num y 12 28 = start (y + 1) - 4 := by
  have := lp_01 y
  rw [start_succ]
  unfold num bef
  simp
  omega
theorem valid_day (y d : Int) (h1 : -9999 ≤ y) (h2 : y ≤ 9999) (h3 : 1 ≤ d) (h4 : d ≤ 28) : Valid y 1 d := ⟨h1, h2, h3, by have := len_bd y 1 (by omega) (by omega); omega⟩
theorem valid_dec (y d : Int) (h1 : -9999 ≤ y) (h2 : y ≤ 9999) (h3 : 1 ≤ d) (h4 : d ≤ 31) : Valid y 12 d := ⟨h1, h2, h3, by
  rw [len_is y 12 (by omega) (by omega)]
  have := bef_last y
  have := lp_01 y
  have e : bef y (12 + 1) = bef y 13 := rfl
  have f : bef y 12 = 334 + lp y := by unfold bef; simp; omega
  omega⟩
theorem wd_bd (n : Int) : 1 ≤ wd n ∧ wd n ≤ 7 := by unfold wd; omega
/-- A day whose Thursday is in a year is not ahead of that year's first week, nor behind its last one. -/
theorem in_weeks (n y : Int) (h1 : start y ≤ n - wd n + 4) (h2 : n - wd n + 4 < start (y + 1)) : op y ≤ n ∧ n < op (y + 1) := by
  unfold op wd at *
  omega
theorem op_next (y : Int) (h1 : -9999 ≤ y) (h2 : y ≤ 9999) : op (y + 1) = op y + 7 * weeks y := by
  have l := lp_01 y
  have e := start_succ y
  unfold weeks
  rw [if_pos ⟨h1, h2⟩]
  unfold op wd at *
  rw [e]
  split <;> omega
end Cal

theorem covered_any (y : Int) (w : World) :
    Calls Tryz.prog 115 #[.int .i64 y] w fun e w' => e = .returned (.bool (Cal.cov y)) ∧ w = w' := by
  by_cases c1 : -9999 ≤ y
  · have R := Lib.hid (show decide (y ≤ 9999) = Cal.cov y by unfold Cal.cov; simp [c1])
    go_enter Tryz.func115, Tryz.ntmps115
    go_wp2
    go_returns
    exact ⟨ret_bool R.out, rfl⟩
  · have R := Lib.hid (show false = Cal.cov y by unfold Cal.cov; simp; omega)
    go_enter Tryz.func115, Tryz.ntmps115
    go_wp2
    go_returns
    exact ⟨ret_bool R.out, rfl⟩
theorem covered_yes (y : Int) (w : World) (h1 : -9999 ≤ y) (h2 : y ≤ 9999) :
    Calls Tryz.prog 115 #[.int .i64 y] w fun e w' => e = .returned (.bool true) ∧ w = w' := by
  have h := covered_any y w
  rw [show Cal.cov y = true by unfold Cal.cov; simp; omega] at h
  exact h
theorem covered_no (y : Int) (w : World) (h : ¬ (-9999 ≤ y ∧ y ≤ 9999)) :
    Calls Tryz.prog 115 #[.int .i64 y] w fun e w' => e = .returned (.bool false) ∧ w = w' := by
  have r := covered_any y w
  rw [show Cal.cov y = false by unfold Cal.cov; simp; omega] at r
  exact r

theorem opening_any (y : Int) (w : World) (hT : Tab w) (h1 : -9999 ≤ y) (h2 : y ≤ 9999) :
    Calls Tryz.prog 114 #[.int .i64 y] w fun e w' => e = .returned (.int .i64 (Cal.op y)) ∧ w = w' := by
  have D := fun w hT => days_valid y 1 4 w hT (Cal.valid_day y 4 h1 h2 (by omega) (by omega))
  simp only [Cal.fourth] at D
  have D := Lib.hid D
  have b := Cal.start_bd y h1 (by omega)
  have wb := Cal.wd_bd (Cal.start y + 3)
  have R := Lib.hid (show Cal.start y + 3 - Cal.wd (Cal.start y + 3) + 1 = Cal.op y from rfl)
  have HT := Lib.hid hT
  clear hT
  obtain ⟨b1, b2⟩ := b
  obtain ⟨b3, b4⟩ := wb
  go_enter Tryz.func114, Tryz.ntmps114
  go_wp2_with (first
    | (go_at_call 91; (with_reducible refine (D.out _ HT.out).mono ?_); rintro e w' ⟨rfl, rfl⟩)
    | (go_at_call 122; (with_reducible refine (weekday_any _ _).mono ?_); rintro e w' ⟨rfl, rfl⟩))
  go_returns
  exact ⟨ret_int R.out, rfl⟩

theorem weeks_any (y : Int) (w : World) (hT : Tab w) :
    Calls Tryz.prog 112 #[.int .i64 y] w fun e w' => e = .returned (.int .i64 (Cal.weeks y)) ∧ w = w' := by
  by_cases c : -9999 ≤ y ∧ y ≤ 9999
  · obtain ⟨h1, h2⟩ := c
    have D1 := fun w hT => days_valid y 1 1 w hT (Cal.valid_day y 1 h1 h2 (by omega) (by omega))
    simp only [Cal.first] at D1
    have D2 := fun w hT => days_valid y 12 31 w hT (Cal.valid_dec y 31 h1 h2 (by omega) (by omega))
    simp only [Cal.last] at D2
    have D1 := Lib.hid D1
    have D2 := Lib.hid D2
    have C := Lib.hid (fun w => covered_yes y w h1 h2)
    have HT := Lib.hid hT
    clear hT
    by_cases c1 : Cal.wd (Cal.start y) = 4
    · have R := Lib.hid (show 53 = Cal.weeks y by unfold Cal.weeks; rw [if_pos ⟨h1, h2⟩, if_pos (.inl c1)])
      have d1 : (Cal.wd (Cal.start y) == 4) = true := by simpa using c1
      clear c1
      go_enter Tryz.func112, Tryz.ntmps112
      go_wp2_with (first
        | (go_at_call 115; (with_reducible refine (C.out _).mono ?_); rintro e w' ⟨rfl, rfl⟩)
        | (go_at_call 91; (with_reducible refine (D1.out _ HT.out).mono ?_); rintro e w' ⟨rfl, rfl⟩)
        | (go_at_call 91; (with_reducible refine (D2.out _ HT.out).mono ?_); rintro e w' ⟨rfl, rfl⟩)
        | (go_at_call 122; (with_reducible refine (weekday_any _ _).mono ?_); rintro e w' ⟨rfl, rfl⟩))
      go_returns
      exact ⟨ret_int R.out, rfl⟩
    · have d1 : (Cal.wd (Cal.start y) == 4) = false := by simpa using c1
      by_cases c2 : Cal.wd (Cal.start (y + 1) - 1) = 4
      · have R := Lib.hid (show 53 = Cal.weeks y by unfold Cal.weeks; rw [if_pos ⟨h1, h2⟩, if_pos (.inr c2)])
        have d2 : (Cal.wd (Cal.start (y + 1) - 1) == 4) = true := by simpa using c2
        clear c1 c2
        go_enter Tryz.func112, Tryz.ntmps112
        go_wp2_with (first
          | (go_at_call 115; (with_reducible refine (C.out _).mono ?_); rintro e w' ⟨rfl, rfl⟩)
          | (go_at_call 91; (with_reducible refine (D1.out _ HT.out).mono ?_); rintro e w' ⟨rfl, rfl⟩)
          | (go_at_call 91; (with_reducible refine (D2.out _ HT.out).mono ?_); rintro e w' ⟨rfl, rfl⟩)
          | (go_at_call 122; (with_reducible refine (weekday_any _ _).mono ?_); rintro e w' ⟨rfl, rfl⟩))
        go_returns
        exact ⟨ret_int R.out, rfl⟩
      · have R := Lib.hid (show 52 = Cal.weeks y by unfold Cal.weeks; rw [if_pos ⟨h1, h2⟩, if_neg (by simp [c1, c2])])
        have d2 : (Cal.wd (Cal.start (y + 1) - 1) == 4) = false := by simpa using c2
        clear c1 c2
        go_enter Tryz.func112, Tryz.ntmps112
        go_wp2_with (first
          | (go_at_call 115; (with_reducible refine (C.out _).mono ?_); rintro e w' ⟨rfl, rfl⟩)
          | (go_at_call 91; (with_reducible refine (D1.out _ HT.out).mono ?_); rintro e w' ⟨rfl, rfl⟩)
          | (go_at_call 91; (with_reducible refine (D2.out _ HT.out).mono ?_); rintro e w' ⟨rfl, rfl⟩)
          | (go_at_call 122; (with_reducible refine (weekday_any _ _).mono ?_); rintro e w' ⟨rfl, rfl⟩))
        go_returns
        exact ⟨ret_int R.out, rfl⟩
  · have R := Lib.hid (show 0 = Cal.weeks y by unfold Cal.weeks; rw [if_neg c])
    have C := Lib.hid (fun w => covered_no y w c)
    clear hT c
    go_enter Tryz.func112, Tryz.ntmps112
    go_wp2_with (go_at_call 115; (with_reducible refine (C.out _).mono ?_); rintro e w' ⟨rfl, rfl⟩)
    go_returns
    exact ⟨ret_int R.out, rfl⟩

/-- Date at any number: a date, or none. -/
theorem date_cases (n : Int) : (∃ y m d : Int, Cal.Valid y m d ∧ Cal.num y m d = n ∧ Cal.start y ≤ n ∧ n < Cal.start (y + 1) ∧ Hid (∀ w, Tab w → Calls Tryz.prog 36 #[.int .i64 n] w fun e w' => e = .returned (.tuple #[.int .i64 y, .int .i64 m, .int .i64 d, .int .i64 0]) ∧ w = w')) ∨
    ((n < -4371587 ∨ 2932897 ≤ n) ∧ Hid (∀ w, Tab w → Calls Tryz.prog 36 #[.int .i64 n] w fun e w' => e = .returned (.tuple #[.int .i64 0, .int .i64 0, .int .i64 0, .int .i64 30]) ∧ w = w')) := by
  by_cases r : -4371587 ≤ n ∧ n < 2932897
  · obtain ⟨y, m, d, v, rfl⟩ := Cal.some_date n r.1 r.2
    have wi := v.within
    exact .inl ⟨y, m, d, v, rfl, wi.1, wi.2.1, Lib.hid fun w hT => date_num y m d w hT v⟩
  · exact .inr ⟨by omega, Lib.hid fun w _ => date_err n w r⟩

theorem known_ok (n : Int) (w : World) (hT : Tab w) (h : -4371587 ≤ n ∧ n < 2932897) :
    Calls Tryz.prog 113 #[.int .i64 n] w fun e w' => e = .returned (.tuple #[.int .i64 n, .int .i64 0]) ∧ w = w' := by
  rcases date_cases n with ⟨y, m, d, v, e, s1, s2, D⟩ | ⟨c, D⟩
  · have HT := Lib.hid hT
    clear hT v e h
    go_enter Tryz.func113, Tryz.ntmps113
    go_wp2_with (go_at_call 36; (with_reducible refine (D.out _ HT.out).mono ?_); rintro e w' ⟨rfl, rfl⟩)
    go_returns
    exact ⟨rfl, rfl⟩
  · omega
theorem known_no (n : Int) (w : World) (hT : Tab w) (h : ¬ (-4371587 ≤ n ∧ n < 2932897)) :
    Calls Tryz.prog 113 #[.int .i64 n] w fun e w' => e = .returned (.tuple #[.int .i64 0, .int .i64 30]) ∧ w = w' := by
  have D := Lib.hid (fun w (_ : Tab w) => date_err n w h)
  have HT := Lib.hid hT
  clear hT h
  go_enter Tryz.func113, Tryz.ntmps113
  go_wp2_with (go_at_call 36; (with_reducible refine (D.out _ HT.out).mono ?_); rintro e w' ⟨rfl, rfl⟩)
  go_returns
  exact ⟨rfl, rfl⟩

theorem ofnth_ok (y k : Int) (w : World) (hT : Tab w) (h1 : -9999 ≤ y) (h2 : y ≤ 9999) (h3 : 1 ≤ k) (h4 : k ≤ 365 + Cal.lp y) :
    Calls Tryz.prog 94 #[.int .i64 y, .int .i64 k] w fun e w' => e = .returned (.tuple #[.int .i64 (Cal.start y + (k - 1)), .int .i64 0]) ∧ w = w' := by
  have D1 := fun w hT => days_valid y 1 1 w hT (Cal.valid_day y 1 h1 h2 (by omega) (by omega))
  simp only [Cal.first] at D1
  have D1 := Lib.hid D1
  have C := Lib.hid (fun w => covered_yes y w h1 h2)
  have s := Cal.start_bd y h1 (by omega)
  have l := Cal.lp_leap y
  have l01 := Cal.lp_01 y
  obtain ⟨s1, s2⟩ := s
  have HT := Lib.hid hT
  clear hT
  by_cases c : k = 366
  · have cl : Cal.leap y = true := by
      by_cases e : Cal.leap y = true
      · exact e
      · rw [if_neg e] at l; omega
    have CL := Lib.hid cl
    subst c
    clear cl l l01 h4
    go_enter Tryz.func94, Tryz.ntmps94
    go_wp2_with (first
      | (go_at_call 115; (with_reducible refine (C.out _).mono ?_); rintro e w' ⟨rfl, rfl⟩)
      | (go_at_call 73; (with_reducible refine (leap_yes _ _ CL.out).mono ?_); rintro e w' ⟨rfl, rfl⟩)
      | (go_at_call 91; (with_reducible refine (D1.out _ HT.out).mono ?_); rintro e w' ⟨rfl, rfl⟩))
    go_returns
    exact ⟨rfl, rfl⟩
  · have c' : k ≤ 365 := by omega
    have d : (k == 366) = false := by simpa using c
    clear c l l01 h4
    go_enter Tryz.func94, Tryz.ntmps94
    go_wp2_with (first
      | (go_at_call 115; (with_reducible refine (C.out _).mono ?_); rintro e w' ⟨rfl, rfl⟩)
      | (go_at_call 91; (with_reducible refine (D1.out _ HT.out).mono ?_); rintro e w' ⟨rfl, rfl⟩))
    go_returns
    exact ⟨rfl, rfl⟩

theorem ofnth_no (y k : Int) (w : World) (h : ¬ (-9999 ≤ y ∧ y ≤ 9999 ∧ 1 ≤ k ∧ k ≤ 365 + Cal.lp y)) :
    Calls Tryz.prog 94 #[.int .i64 y, .int .i64 k] w fun e w' => e = .returned (.tuple #[.int .i64 0, .int .i64 30]) ∧ w = w' := by
  have l := Cal.lp_leap y
  have l01 := Cal.lp_01 y
  by_cases c : -9999 ≤ y ∧ y ≤ 9999
  · have C := Lib.hid (fun w => covered_yes y w c.1 c.2)
    by_cases k1 : k < 1
    · clear h c l l01
      go_enter Tryz.func94, Tryz.ntmps94
      go_wp2_with (go_at_call 115; (with_reducible refine (C.out _).mono ?_); rintro e w' ⟨rfl, rfl⟩)
      go_returns
      exact ⟨rfl, rfl⟩
    · by_cases k2 : 366 < k
      · clear h c l l01
        go_enter Tryz.func94, Tryz.ntmps94
        go_wp2_with (go_at_call 115; (with_reducible refine (C.out _).mono ?_); rintro e w' ⟨rfl, rfl⟩)
        go_returns
        exact ⟨rfl, rfl⟩
      · have cl : Cal.leap y = false := by
          by_cases e : Cal.leap y = true
          · rw [if_pos e] at l; omega
          · simpa using e
        rw [cl] at l
        simp at l
        have ek : k = 366 := by omega
        subst ek
        have CL := Lib.hid cl
        clear h c l l01 cl
        go_enter Tryz.func94, Tryz.ntmps94
        go_wp2_with (first
          | (go_at_call 115; (with_reducible refine (C.out _).mono ?_); rintro e w' ⟨rfl, rfl⟩)
          | (go_at_call 73; (with_reducible refine (leap_no _ _ CL.out).mono ?_); rintro e w' ⟨rfl, rfl⟩))
        go_returns
        exact ⟨rfl, rfl⟩
  · have C := Lib.hid (fun w => covered_no y w c)
    clear h c l l01
    go_enter Tryz.func94, Tryz.ntmps94
    go_wp2_with (go_at_call 115; (with_reducible refine (C.out _).mono ?_); rintro e w' ⟨rfl, rfl⟩)
    go_returns
    exact ⟨rfl, rfl⟩
end Go.Proofs.YthkddellilhhaaaGreatDoor
