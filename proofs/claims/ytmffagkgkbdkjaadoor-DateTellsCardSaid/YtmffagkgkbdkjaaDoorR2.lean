/- Contracts of the document's own answer for layer 4: OfNth, OfWeek, Week. -/
import Derived.Test.YtmffagkgkbdkjaaDoorR1
namespace Go.Proofs.YtmffagkgkbdkjaaDoor
set_option linter.unusedVariables false
set_option linter.unusedSimpArgs false
open Go.ChangeShapes Go.WideShapes Go.ChangeAt Go.RowKit

theorem rofnth_told (y k : Int) (w : World) (k1 : -9223372036854775808 ≤ k) (k2 : k ≤ 9223372036854775807) :
    Calls Tryd.prog 18 #[.int .i64 y, .int .i64 k] w fun e w' => e = .returned (.tuple #[.int .i64 (toldN (onNth y k)), .int .i64 (toldE (onNth y k))]) ∧ w = w' := by
  by_cases c : -9999 ≤ y ∧ y ≤ 9999
  · obtain ⟨h1, h2⟩ := c
    have D1 := fun w => rdays_valid y 1 1 w (Cal.valid_day y 1 h1 h2 (by omega) (by omega))
    simp only [Cal.first] at D1
    have D1 := Lib.hid D1
    have D2 := fun w => rdays_valid y 12 31 w (Cal.valid_dec y 31 h1 h2 (by omega) (by omega))
    simp only [Cal.last] at D2
    have s := Cal.start_bd y h1 (by omega)
    have se := Cal.start_succ y
    have l := Cal.lp_01 y
    rw [show Cal.start (y + 1) - 1 = Cal.start y + 364 + Cal.lp y by omega] at D2
    have D2 := Lib.hid D2
    obtain ⟨s1, s2⟩ := s
    obtain ⟨l1, l2⟩ := l
    have T := fun h => show onNth y k = some (Cal.start y + (k - 1)) from if_pos h
    have T' := fun h => show onNth y k = none from if_neg h
    by_cases a : 1 ≤ k
    · by_cases b : k ≤ 365 + Cal.lp y
      · rw [T ⟨h1, h2, a, b⟩]
        have R := Lib.hid (show Cal.start y + k - 1 = Cal.start y + (k - 1) by omega)
        have t1 : ¬ k < 1 := by omega
        have e1 : Cal.start y + 364 + Cal.lp y - Cal.start y + 1 = 365 + Cal.lp y := by omega
        have t2 : ¬ (365 + Cal.lp y < k) := by omega
        have t3 : ¬ (Cal.start y + 364 + Cal.lp y - Cal.start y + 1 < k) := by omega
        clear T T' se
        go_enter Tryd.func18, Tryd.ntmps18
        go_wp2_with (first
          | (go_at_call 35; (with_reducible refine (D1.out _).mono ?_); rintro e w' ⟨rfl, rfl⟩)
          | (go_at_call 35; (with_reducible refine (D2.out _).mono ?_); rintro e w' ⟨rfl, rfl⟩))
        go_returns
        exact ⟨ret_int2 R.out rfl, rfl⟩
      · rw [T' (by omega)]
        have t1 : ¬ k < 1 := by omega
        have e1 : Cal.start y + 364 + Cal.lp y - Cal.start y + 1 = 365 + Cal.lp y := by omega
        have t2 : 365 + Cal.lp y < k := by omega
        have t3 : Cal.start y + 364 + Cal.lp y - Cal.start y + 1 < k := by omega
        clear T T' se
        go_enter Tryd.func18, Tryd.ntmps18
        go_wp2_with (first
          | (go_at_call 35; (with_reducible refine (D1.out _).mono ?_); rintro e w' ⟨rfl, rfl⟩)
          | (go_at_call 35; (with_reducible refine (D2.out _).mono ?_); rintro e w' ⟨rfl, rfl⟩))
        go_returns
        exact ⟨rfl, rfl⟩
    · rw [T' (by omega)]
      have t1 : k < 1 := by omega
      clear T T' se
      go_enter Tryd.func18, Tryd.ntmps18
      go_wp2_with (first
        | (go_at_call 35; (with_reducible refine (D1.out _).mono ?_); rintro e w' ⟨rfl, rfl⟩)
        | (go_at_call 35; (with_reducible refine (D2.out _).mono ?_); rintro e w' ⟨rfl, rfl⟩))
      go_returns
      exact ⟨rfl, rfl⟩
  · have D1 := Lib.hid (fun w => rdays_not y 1 1 w (fun v => c ⟨v.y1, v.y2⟩))
    have D2 := Lib.hid (fun w => rdays_not y 12 31 w (fun v => c ⟨v.y1, v.y2⟩))
    rw [show onNth y k = none from if_neg (fun h => c ⟨h.1, h.2.1⟩)]
    clear c
    go_enter Tryd.func18, Tryd.ntmps18
    go_wp2_with (first
      | (go_at_call 35; (with_reducible refine (D1.out _).mono ?_); rintro e w' ⟨rfl, rfl⟩)
      | (go_at_call 35; (with_reducible refine (D2.out _).mono ?_); rintro e w' ⟨rfl, rfl⟩))
    go_returns
    exact ⟨rfl, rfl⟩

theorem rofweek_told (y k d : Int) (w : World) :
    Calls Tryd.prog 12 #[.int .i64 y, .int .i64 k, .int .i64 d] w fun e w' => e = .returned (.tuple #[.int .i64 (toldN (onWeek y k d)), .int .i64 (toldE (onWeek y k d))]) ∧ w = w' := by
  have W := Lib.hid (fun w => rweeks_any y w)
  by_cases k1 : k < 1
  · rw [show onWeek y k d = none from if_neg (by omega)]
    go_enter Tryd.func12, Tryd.ntmps12
    go_wp2_with (go_at_call 14; (with_reducible refine (W.out _).mono ?_); rintro e w' ⟨rfl, rfl⟩)
    go_returns
    exact ⟨rfl, rfl⟩
  · by_cases k2 : Cal.weeks y < k
    · rw [show onWeek y k d = none from if_neg (by omega)]
      go_enter Tryd.func12, Tryd.ntmps12
      go_wp2_with (go_at_call 14; (with_reducible refine (W.out _).mono ?_); rintro e w' ⟨rfl, rfl⟩)
      go_returns
      exact ⟨rfl, rfl⟩
    · by_cases k3 : d < 1
      · rw [show onWeek y k d = none from if_neg (by omega)]
        go_enter Tryd.func12, Tryd.ntmps12
        go_wp2_with (go_at_call 14; (with_reducible refine (W.out _).mono ?_); rintro e w' ⟨rfl, rfl⟩)
        go_returns
        exact ⟨rfl, rfl⟩
      · by_cases k4 : 7 < d
        · rw [show onWeek y k d = none from if_neg (by omega)]
          go_enter Tryd.func12, Tryd.ntmps12
          go_wp2_with (go_at_call 14; (with_reducible refine (W.out _).mono ?_); rintro e w' ⟨rfl, rfl⟩)
          go_returns
          exact ⟨rfl, rfl⟩
        · have wb := (Cal.weeks_bd y).2
          have cv := Cal.weeks_cov y (by omega)
          have ob := Cal.op_bd y cv.1 cv.2
          have O := Lib.hid (fun w => rfirst_any y w cv.1 (by omega))
          obtain ⟨n, hn⟩ : ∃ n, Cal.op y + (k - 1) * 7 + (d - 1) = n := ⟨_, rfl⟩
          have e1 : Cal.op y + (7 * (k - 1) + d - 1) = n := by omega
          have T : onWeek y k d = if -4371587 ≤ n ∧ n < 2932897 then some n else none := by
            unfold onWeek
            rw [if_pos (by omega), hn]
          have k53 : k ≤ 53 := by omega
          obtain ⟨ob1, ob2⟩ := ob
          by_cases r : -4371587 ≤ n ∧ n < 2932897
          · rw [T, if_pos r]
            obtain ⟨yy, mm, dd, v, e⟩ := Cal.some_date n r.1 r.2
            have D := fun w => rdate_num yy mm dd w v
            rw [e] at D
            have D := Lib.hid D
            have E1 := Lib.hid e1
            rw [← e1] at D
            clear T cv wb hn r v e e1
            go_enter Tryd.func12, Tryd.ntmps12
            go_wp2_with (first
              | (go_at_call 14; (with_reducible refine (W.out _).mono ?_); rintro e w' ⟨rfl, rfl⟩)
              | (go_at_call 32; (with_reducible refine (O.out _).mono ?_); rintro e w' ⟨rfl, rfl⟩)
              | (go_at_call 30; (with_reducible refine (D.out _).mono ?_); rintro e w' ⟨rfl, rfl⟩))
            go_returns
            exact ⟨ret_int2 E1.out rfl, rfl⟩
          · rw [T, if_neg r]
            have D := fun w => rdate_err n w r
            rw [← e1] at D
            have D := Lib.hid D
            clear T cv wb hn r e1
            go_enter Tryd.func12, Tryd.ntmps12
            go_wp2_with (first
              | (go_at_call 14; (with_reducible refine (W.out _).mono ?_); rintro e w' ⟨rfl, rfl⟩)
              | (go_at_call 32; (with_reducible refine (O.out _).mono ?_); rintro e w' ⟨rfl, rfl⟩)
              | (go_at_call 30; (with_reducible refine (D.out _).mono ?_); rintro e w' ⟨rfl, rfl⟩))
            go_returns
            exact ⟨rfl, rfl⟩
end Go.Proofs.YtmffagkgkbdkjaaDoor
