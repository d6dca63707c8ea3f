/- Contracts of package date: the week of a day, the day of a week. -/
import Derived.Test.YtmffagkgkbdkjaaDoorDate
namespace Go.Proofs.YtmffagkgkbdkjaaDoor
set_option linter.unusedVariables false
open Go.ChangeShapes Go.WideShapes Go.ChangeAt Go.RowKit

namespace Cal
theorem weeks_bd (y : Int) : 0 ≤ weeks y ∧ weeks y ≤ 53 := by unfold weeks; split <;> (try split) <;> omega
theorem weeks_cov (y : Int) (h : 0 < weeks y) : -9999 ≤ y ∧ y ≤ 9999 := by
  unfold weeks at h
  by_cases c : -9999 ≤ y ∧ y ≤ 9999
  · exact c
  · rw [if_neg c] at h; omega
theorem op_bd (y : Int) (h1 : -9999 ≤ y) (h2 : y ≤ 9999) : -4400000 ≤ op y ∧ op y ≤ 2950000 := by
  have b := start_bd y h1 (by omega)
  have := wd_bd (start y + 3)
  unfold op
  omega
end Cal

/-- Week at any number: its year, or none. -/
theorem week_cases (n : Int) (hn : -9000000000000000000 ≤ n) (hn' : n ≤ 9000000000000000000) : (∃ Y : Int, -9999 ≤ Y ∧ Y ≤ 9999 ∧ Cal.start Y ≤ n - Cal.wd n + 4 ∧ n - Cal.wd n + 4 < Cal.start (Y + 1) ∧ Cal.op Y ≤ n ∧ n < Cal.op (Y + 1) ∧ -4371587 ≤ n ∧ n < 2932897 ∧
      Hid (∀ w, Tab w → Calls Tryd.prog 9 #[.int .i64 n] w fun e w' => e = .returned (.tuple #[.int .i64 Y, .int .i64 ((n - Cal.op Y) / 7 + 1), .int .i64 (Cal.wd n), .int .i64 0]) ∧ w = w')) ∨
    (¬ (-4371587 ≤ n ∧ n < 2932897 ∧ -4371587 ≤ n - Cal.wd n + 4 ∧ n - Cal.wd n + 4 < 2932897) ∧ Hid (∀ w, Tab w → Calls Tryd.prog 9 #[.int .i64 n] w fun e w' => e = .returned (.tuple #[.int .i64 0, .int .i64 0, .int .i64 0, .int .i64 30]) ∧ w = w')) := by
  have wb := Cal.wd_bd n
  rcases date_cases n with ⟨y, m, d, v, e, s1, s2, D⟩ | ⟨c, D⟩
  · have r := v.range
    rw [e] at r
    rcases date_cases (n - Cal.wd n + 4) with ⟨y', m', d', v', e', s1', s2', D'⟩ | ⟨c', D'⟩
    · have iw := Cal.in_weeks n y' s1' s2'
      have ob := Cal.op_bd y' v'.y1 v'.y2
      refine .inl ⟨y', v'.y1, v'.y2, s1', s2', iw.1, iw.2, r.1, r.2, Lib.hid fun w hT => ?_⟩
      have O := Lib.hid (fun w hT => opening_any y' w hT v'.y1 v'.y2)
      have q : 0 ≤ n - Cal.op y' := by omega
      have td := Lib.hid (show (n - Cal.op y').tdiv 7 + 1 = (n - Cal.op y') / 7 + 1 by rw [Int.tdiv_eq_ediv_of_nonneg q])
      have qb : n - Cal.op y' < 10000000 := by omega
      have tb : 0 ≤ (n - Cal.op y').tdiv 7 ∧ (n - Cal.op y').tdiv 7 < 10000000 := by rw [Int.tdiv_eq_ediv_of_nonneg q]; omega
      obtain ⟨tb1, tb2⟩ := tb
      obtain ⟨ob1, ob2⟩ := ob
      obtain ⟨wb1, wb2⟩ := wb
      obtain ⟨r1, r2⟩ := r
      have HT := Lib.hid hT
      clear hT v v' e e' iw s1 s2 s1' s2'
      go_enter Tryd.func9, Tryd.ntmps9
      go_wp2_with (first
        | (go_at_call 28; (with_reducible refine (D.out _ HT.out).mono ?_); rintro e w' ⟨rfl, rfl⟩)
        | (go_at_call 28; (with_reducible refine (D'.out _ HT.out).mono ?_); rintro e w' ⟨rfl, rfl⟩)
        | (go_at_call 29; (with_reducible refine (O.out _ HT.out).mono ?_); rintro e w' ⟨rfl, rfl⟩)
        | (go_at_call 23; (with_reducible refine (weekday_any _ _).mono ?_); rintro e w' ⟨rfl, rfl⟩))
      go_returns
      exact ⟨ret_int4' rfl td.out rfl rfl, rfl⟩
    · refine .inr ⟨by omega, Lib.hid fun w hT => ?_⟩
      obtain ⟨wb1, wb2⟩ := wb
      obtain ⟨r1, r2⟩ := r
      have HT := Lib.hid hT
      clear hT v e s1 s2 c'
      go_enter Tryd.func9, Tryd.ntmps9
      go_wp2_with (first
        | (go_at_call 28; (with_reducible refine (D.out _ HT.out).mono ?_); rintro e w' ⟨rfl, rfl⟩)
        | (go_at_call 28; (with_reducible refine (D'.out _ HT.out).mono ?_); rintro e w' ⟨rfl, rfl⟩)
        | (go_at_call 23; (with_reducible refine (weekday_any _ _).mono ?_); rintro e w' ⟨rfl, rfl⟩))
      go_returns
      exact ⟨rfl, rfl⟩
  · refine .inr ⟨by omega, Lib.hid fun w hT => ?_⟩
    have HT := Lib.hid hT
    clear hT c wb
    go_enter Tryd.func9, Tryd.ntmps9
    go_wp2_with (go_at_call 28; (with_reducible refine (D.out _ HT.out).mono ?_); rintro e w' ⟨rfl, rfl⟩)
    go_returns
    exact ⟨rfl, rfl⟩

theorem ofweek_ok (y k d : Int) (w : World) (hT : Tab w) (h1 : 1 ≤ k) (h2 : k ≤ Cal.weeks y) (h3 : 1 ≤ d) (h4 : d ≤ 7)
    (r1 : -4371587 ≤ Cal.op y + (k - 1) * 7 + (d - 1)) (r2 : Cal.op y + (k - 1) * 7 + (d - 1) < 2932897) :
    Calls Tryd.prog 11 #[.int .i64 y, .int .i64 k, .int .i64 d] w fun e w' => e = .returned (.tuple #[.int .i64 (Cal.op y + (k - 1) * 7 + (d - 1)), .int .i64 0]) ∧ w = w' := by
  have wb := (Cal.weeks_bd y).2
  have cv := Cal.weeks_cov y (by omega)
  have ob := Cal.op_bd y cv.1 cv.2
  have O := Lib.hid (fun w hT => opening_any y w hT cv.1 cv.2)
  have W := Lib.hid (fun w hT => weeks_any y w hT)
  have K := Lib.hid (fun w hT => known_ok (Cal.op y + (k - 1) * 7 + (d - 1)) w hT ⟨r1, r2⟩)
  have HT := Lib.hid hT
  obtain ⟨ob1, ob2⟩ := ob
  have k53 : k ≤ 53 := by omega
  clear hT cv wb r1 r2
  go_enter Tryd.func11, Tryd.ntmps11
  go_wp2_with (first
    | (go_at_call 13; (with_reducible refine (W.out _ HT.out).mono ?_); rintro e w' ⟨rfl, rfl⟩)
    | (go_at_call 29; (with_reducible refine (O.out _ HT.out).mono ?_); rintro e w' ⟨rfl, rfl⟩)
    | (go_at_call 33; (with_reducible refine (K.out _ HT.out).mono ?_); rintro e w' ⟨rfl, rfl⟩))
  go_returns
  exact ⟨rfl, rfl⟩

theorem ofweek_out (y k d : Int) (w : World) (hT : Tab w) (h1 : 1 ≤ k) (h2 : k ≤ Cal.weeks y) (h3 : 1 ≤ d) (h4 : d ≤ 7)
    (r : ¬ (-4371587 ≤ Cal.op y + (k - 1) * 7 + (d - 1) ∧ Cal.op y + (k - 1) * 7 + (d - 1) < 2932897)) :
    Calls Tryd.prog 11 #[.int .i64 y, .int .i64 k, .int .i64 d] w fun e w' => e = .returned (.tuple #[.int .i64 0, .int .i64 30]) ∧ w = w' := by
  have wb := (Cal.weeks_bd y).2
  have cv := Cal.weeks_cov y (by omega)
  have ob := Cal.op_bd y cv.1 cv.2
  have O := Lib.hid (fun w hT => opening_any y w hT cv.1 cv.2)
  have W := Lib.hid (fun w hT => weeks_any y w hT)
  have K := Lib.hid (fun w hT => known_no (Cal.op y + (k - 1) * 7 + (d - 1)) w hT r)
  have HT := Lib.hid hT
  obtain ⟨ob1, ob2⟩ := ob
  have k53 : k ≤ 53 := by omega
  clear hT cv wb r
  go_enter Tryd.func11, Tryd.ntmps11
  go_wp2_with (first
    | (go_at_call 13; (with_reducible refine (W.out _ HT.out).mono ?_); rintro e w' ⟨rfl, rfl⟩)
    | (go_at_call 29; (with_reducible refine (O.out _ HT.out).mono ?_); rintro e w' ⟨rfl, rfl⟩)
    | (go_at_call 33; (with_reducible refine (K.out _ HT.out).mono ?_); rintro e w' ⟨rfl, rfl⟩))
  go_returns
  exact ⟨rfl, rfl⟩

theorem ofweek_no (y k d : Int) (w : World) (hT : Tab w) (h : ¬ (1 ≤ k ∧ k ≤ Cal.weeks y ∧ 1 ≤ d ∧ d ≤ 7)) :
    Calls Tryd.prog 11 #[.int .i64 y, .int .i64 k, .int .i64 d] w fun e w' => e = .returned (.tuple #[.int .i64 0, .int .i64 30]) ∧ w = w' := by
  have W := Lib.hid (fun w hT => weeks_any y w hT)
  have HT := Lib.hid hT
  clear hT
  by_cases k1 : k < 1
  · clear h
    go_enter Tryd.func11, Tryd.ntmps11
    go_wp2_with (go_at_call 13; (with_reducible refine (W.out _ HT.out).mono ?_); rintro e w' ⟨rfl, rfl⟩)
    go_returns
    exact ⟨rfl, rfl⟩
  · by_cases k2 : Cal.weeks y < k
    · clear h
      go_enter Tryd.func11, Tryd.ntmps11
      go_wp2_with (go_at_call 13; (with_reducible refine (W.out _ HT.out).mono ?_); rintro e w' ⟨rfl, rfl⟩)
      go_returns
      exact ⟨rfl, rfl⟩
    · by_cases k3 : d < 1
      · clear h
        go_enter Tryd.func11, Tryd.ntmps11
        go_wp2_with (go_at_call 13; (with_reducible refine (W.out _ HT.out).mono ?_); rintro e w' ⟨rfl, rfl⟩)
        go_returns
        exact ⟨rfl, rfl⟩
      · have k4 : 7 < d := by omega
        clear h
        go_enter Tryd.func11, Tryd.ntmps11
        go_wp2_with (go_at_call 13; (with_reducible refine (W.out _ HT.out).mono ?_); rintro e w' ⟨rfl, rfl⟩)
        go_returns
        exact ⟨rfl, rfl⟩
end Go.Proofs.YtmffagkgkbdkjaaDoor
