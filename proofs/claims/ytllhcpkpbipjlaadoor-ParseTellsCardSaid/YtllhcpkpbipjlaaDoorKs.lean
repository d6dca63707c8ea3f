/- R1, R2, R3 in one. -/
import Derived.Test.YtllhcpkpbipjlaaDoorKe
import Derived.Test.YtllhcpkpbipjlaaDoorKq
import Derived.Test.YtllhcpkpbipjlaaDoorKr
namespace Go.Proofs.YtllhcpkpbipjlaaDoor
set_option linter.unusedVariables false
set_option linter.unusedSimpArgs false
open Go.ChangeShapes Go.WideShapes Go.ChangeAt Go.RowKit

theorem inside_yes (y : Int) (w : World) (h1 : -9999 ≤ y) (h2 : y ≤ 9999) :
    Calls Tryd.prog 78 #[.int .i64 y] w fun e w' => e = .returned (.bool true) ∧ w = w' := by
  go_enter Tryd.func78, Tryd.ntmps78
  go_wp2
  go_returns
  exact ⟨rfl, rfl⟩
theorem inside_no (y : Int) (w : World) (h : ¬ (-9999 ≤ y ∧ y ≤ 9999)) :
    Calls Tryd.prog 78 #[.int .i64 y] w fun e w' => e = .returned (.bool false) ∧ w = w' := by
  by_cases c : y < -9999
  · have d : decide (-9999 ≤ y) = false := by simp; omega
    clear h c
    go_enter Tryd.func78, Tryd.ntmps78
    go_wp2
    go_returns
    exact ⟨rfl, rfl⟩
  · have d : decide (-9999 ≤ y) = true := by simp; omega
    have d2 : decide (y ≤ 9999) = false := by simp; omega
    clear h c
    go_enter Tryd.func78, Tryd.ntmps78
    go_wp2
    go_returns
    exact ⟨rfl, rfl⟩

/-- The Monday of a year's first week. -/
theorem rfirst_in (y : Int) (w : World) (h1 : -9999 ≤ y) (h2 : y ≤ 9999) :
    Calls Tryd.prog 79 #[.int .i64 y] w fun e w' => e = .returned (.int .i64 (Cal.op y)) ∧ w = w' := by
  have I := Lib.hid (fun w => inside_yes y w h1 h2)
  have D := fun w => rdays_valid y 1 4 w (Cal.valid_day y 4 h1 h2 (by omega) (by omega))
  simp only [Cal.fourth] at D
  have D := Lib.hid D
  have s := Cal.start_bd y h1 (by omega)
  have wb := Cal.wd_bd (Cal.start y + 3)
  have R := Lib.hid (show Cal.start y + 3 - Cal.wd (Cal.start y + 3) + 1 = Cal.op y from rfl)
  obtain ⟨s1, s2⟩ := s
  obtain ⟨wb1, wb2⟩ := wb
  go_enter Tryd.func79, Tryd.ntmps79
  go_wp2_with (first
    | (go_at_call 78; (with_reducible refine (I.out _).mono ?_); rintro e w' ⟨rfl, rfl⟩)
    | (go_at_call 67; (with_reducible refine (D.out _).mono ?_); rintro e w' ⟨rfl, rfl⟩)
    | (go_at_call 80; (with_reducible refine (rweekday_any _ _).mono ?_); rintro e w' ⟨rfl, rfl⟩))
  go_returns
  exact ⟨ret_int R.out, rfl⟩
theorem rfirst_end (w : World) :
    Calls Tryd.prog 79 #[.int .i64 10000] w fun e w' => e = .returned (.int .i64 (Cal.op 10000)) ∧ w = w' := by
  have I := Lib.hid (fun w => inside_no 10000 w (by omega))
  have D : ∀ w, Calls Tryd.prog 67 #[.int .i64 9999, .int .i64 12, .int .i64 31] w fun e w' => e = .returned (.tuple #[.int .i64 2932896, .int .i64 0]) ∧ w = w' := by
    intro w
    have h := rdays_valid 9999 12 31 w (Cal.valid_dec 9999 31 (by omega) (by omega) (by omega) (by omega))
    rw [show Cal.num 9999 12 31 = 2932896 by decide] at h
    exact h
  have D := Lib.hid D
  have W : ∀ w, Calls Tryd.prog 80 #[.int .i64 2932900] w fun e w' => e = .returned (.int .i64 2) ∧ w = w' := by
    intro w
    have h := rweekday_any 2932900 w
    rw [show Cal.wd 2932900 = 2 by decide] at h
    exact h
  have W := Lib.hid W
  rw [show Cal.op 10000 = 2932899 by decide]
  go_enter Tryd.func79, Tryd.ntmps79
  go_wp2_with (first
    | (go_at_call 78; (with_reducible refine (I.out _).mono ?_); rintro e w' ⟨rfl, rfl⟩)
    | (go_at_call 67; (with_reducible refine (D.out _).mono ?_); rintro e w' ⟨rfl, rfl⟩)
    | (go_at_call 80; (with_reducible refine (W.out _).mono ?_); rintro e w' ⟨rfl, rfl⟩))
  go_returns
  exact ⟨rfl, rfl⟩
theorem rfirst_any (y : Int) (w : World) (h1 : -9999 ≤ y) (h2 : y ≤ 10000) :
    Calls Tryd.prog 79 #[.int .i64 y] w fun e w' => e = .returned (.int .i64 (Cal.op y)) ∧ w = w' := by
  by_cases c : y = 10000
  · subst c; exact rfirst_end w
  · exact rfirst_in y w h1 (by omega)

theorem rnth_ok (y m d : Int) (w : World) (v : Cal.Valid y m d) :
    Calls Tryd.prog 74 #[.int .i64 (Cal.num y m d)] w fun e w' => e = .returned (.tuple #[.int .i64 y, .int .i64 (Cal.num y m d - Cal.start y + 1), .int .i64 0]) ∧ w = w' := by
  have D := Lib.hid (fun w => rdate_num y m d w v)
  have D1 := fun w => rdays_valid y 1 1 w (Cal.valid_day y 1 v.y1 v.y2 (by omega) (by omega))
  simp only [Cal.first] at D1
  have D1 := Lib.hid D1
  have r := v.range
  have wi := v.within
  have s := Cal.start_bd y v.y1 (by have := v.y2; omega)
  generalize Cal.num y m d = n at *
  obtain ⟨r1, r2⟩ := r
  obtain ⟨s1, s2⟩ := s
  have w1 := wi.1
  clear v wi
  go_enter Tryd.func74, Tryd.ntmps74
  go_wp2_with (first
    | (go_at_call 71; (with_reducible refine (D.out _).mono ?_); rintro e w' ⟨rfl, rfl⟩)
    | (go_at_call 67; (with_reducible refine (D1.out _).mono ?_); rintro e w' ⟨rfl, rfl⟩))
  go_returns
  exact ⟨rfl, rfl⟩
theorem rnth_no (n : Int) (w : World) (h : ¬ (-4371587 ≤ n ∧ n < 2932897)) :
    Calls Tryd.prog 74 #[.int .i64 n] w fun e w' => e = .returned (.tuple #[.int .i64 0, .int .i64 0, .int .i64 30]) ∧ w = w' := by
  have D := Lib.hid (fun w => rdate_err n w h)
  clear h
  go_enter Tryd.func74, Tryd.ntmps74
  go_wp2_with (go_at_call 71; (with_reducible refine (D.out _).mono ?_); rintro e w' ⟨rfl, rfl⟩)
  go_returns
  exact ⟨rfl, rfl⟩

theorem op_up (k Y : Int) (h1 : -9999 ≤ k) (h2 : k ≤ Y) (h3 : Y ≤ 10000) : Cal.op k ≤ Cal.op Y := by
  rcases (show k = Y ∨ k < Y by omega) with c | c
  · subst c; exact Int.le_refl _
  · have a := Cal.op_mono k Y h1 c h3
    have b := Cal.op_next k h1 (by omega)
    have w := Cal.weeks_bd k
    omega

/-- The year of a week is that of its Thursday, or one beside a day's own. -/
theorem near (n y Y : Int) (hy : Cal.start y ≤ n ∧ n < Cal.start (y + 1)) (hY : Cal.op Y ≤ n ∧ n < Cal.op (Y + 1)) : y - 1 ≤ Y ∧ Y ≤ y + 1 := by
  have o1 : Cal.start Y ≤ Cal.op Y + 3 ∧ Cal.op Y + 3 < Cal.start Y + 7 := by unfold Cal.op Cal.wd; omega
  have o2 : Cal.start (Y + 1) ≤ Cal.op (Y + 1) + 3 ∧ Cal.op (Y + 1) + 3 < Cal.start (Y + 1) + 7 := by unfold Cal.op Cal.wd; omega
  constructor
  · rcases (show y - 1 ≤ Y ∨ Y + 1 ≤ y - 1 by omega) with c | c
    · exact c
    · have a := Cal.start_mono (Y + 1) (y - 1) c
      have b := Cal.start_mono (y - 1) y (by omega)
      omega
  · rcases (show Y ≤ y + 1 ∨ y + 2 ≤ Y by omega) with c | c
    · exact c
    · have a := Cal.start_mono (y + 2) Y c
      have b := Cal.start_mono (y + 1) (y + 2) (by omega)
      omega

set_option maxHeartbeats 4000000 in
theorem rweek_ok (n Y : Int) (w : World) (h1 : -9999 ≤ Y) (h2 : Y ≤ 9999) (a : Cal.op Y ≤ n) (b : n < Cal.op (Y + 1)) (c : -4371587 ≤ n) (d : n < 2932897) :
    Calls Tryd.prog 75 #[.int .i64 n] w fun e w' => e = .returned (.tuple #[.int .i64 Y, .int .i64 ((n - Cal.op Y) / 7 + 1), .int .i64 (Cal.wd n), .int .i64 0]) ∧ w = w' := by
  obtain ⟨y, m, dd, v, e⟩ := Cal.some_date n c d
  have wi := v.within
  rw [e] at wi
  have nr := near n y Y ⟨wi.1, wi.2.1⟩ ⟨a, b⟩
  have D := fun w => rdate_num y m dd w v
  rw [e] at D
  have D := Lib.hid D
  have y1 := v.y1
  have y2 := v.y2
  have W := Lib.hid (Cal.op_wd Y n)
  have OU := Lib.hid (fun k h1 h2 => op_up k Y h1 h2 (by omega))
  clear v e wi
  go_enter Tryd.func75, Tryd.ntmps75
  go_wp2_with (go_at_call 71; (with_reducible refine (D.out _).mono ?_); rintro e w' ⟨rfl, rfl⟩)
  go_loopw [10] (fun kk wr => wr = w ∧ ∃ k : Int, kk = .int .i64 k ∧ y - 1 ≤ k ∧ k ≤ Y) (fun kk _ => (20000 - intOf kk).toNat)
  case atStart => exact ⟨rfl, _, rfl, by omega, by omega⟩
  case round =>
    obtain ⟨rfl, k, rfl, k1, k2⟩ := hrel
    have t0 : k ≤ y + 1 := by omega
    by_cases ky : k = Y
    · subst ky
      have I := Lib.hid (fun w => inside_yes k w h1 h2)
      have F1 := Lib.hid (fun w => rfirst_any k w (by omega) (by omega))
      have F2 := Lib.hid (fun w => rfirst_any (k + 1) w (by omega) (by omega))
      have ob := Cal.op_bd k h1 h2
      obtain ⟨ob1, ob2⟩ := ob
      have q0 : 0 ≤ n - Cal.op k := by omega
      have R1 := Lib.hid (show (n - Cal.op k).tdiv 7 + 1 = (n - Cal.op k) / 7 + 1 by rw [Int.tdiv_eq_ediv_of_nonneg q0])
      have R2 := Lib.hid (show (n - Cal.op k).tmod 7 + 1 = Cal.wd n by rw [Int.tmod_eq_emod_of_nonneg q0]; exact W.out)
      have R3 := W.out
      have R3 := Lib.hid R3
      have tb : (n - Cal.op k) / 7 ≤ 2000000 := by omega
      have tb0 : 0 ≤ (n - Cal.op k) / 7 := by omega
      have tm : (n - Cal.op k) % 7 ≤ 6 := by omega
      have tm0 : 0 ≤ (n - Cal.op k) % 7 := by omega
      have ql : n - Cal.op k ≤ 9000000 := by omega
      clear nr OU
      go_wp2_with (first
        | (go_at_call 78; (with_reducible refine (I.out _).mono ?_); rintro e w' ⟨rfl, rfl⟩)
        | (go_at_call 79; (with_reducible refine (F1.out _).mono ?_); rintro e w' ⟨rfl, rfl⟩)
        | (go_at_call 79; (with_reducible refine (F2.out _).mono ?_); rintro e w' ⟨rfl, rfl⟩))
      go_returns
      exact ⟨ret_int4' rfl (by first | rfl | exact R1.out) (by first | rfl | exact R3.out | exact R2.out) rfl, rfl⟩
    · have k3 : k < Y := by omega
      by_cases ki : -9999 ≤ k
      · have I := Lib.hid (fun w => inside_yes k w ki (by omega))
        have F1 := Lib.hid (fun w => rfirst_any k w (by omega) (by omega))
        have F2 := Lib.hid (fun w => rfirst_any (k + 1) w (by omega) (by omega))
        have u1 := OU.out k ki k2
        have u2 := OU.out (k + 1) (by omega) (by omega)
        have g1 : Cal.op k ≤ n := by omega
        have g2 : ¬ n < Cal.op (k + 1) := by omega
        clear nr OU u1 u2 ky
        go_wp2_with (first
          | (go_at_call 78; (with_reducible refine (I.out _).mono ?_); rintro e w' ⟨rfl, rfl⟩)
          | (go_at_call 79; (with_reducible refine (F1.out _).mono ?_); rintro e w' ⟨rfl, rfl⟩)
          | (go_at_call 79; (with_reducible refine (F2.out _).mono ?_); rintro e w' ⟨rfl, rfl⟩))
        all_goals go_roundw
        case rel => exact ⟨trivial, _, rfl, by omega, by omega⟩
        case measure => simp [intOf]; omega
      · have I := Lib.hid (fun w => inside_no k w (by omega))
        clear nr OU ky
        go_wp2_with (go_at_call 78; (with_reducible refine (I.out _).mono ?_); rintro e w' ⟨rfl, rfl⟩)
        all_goals go_roundw
        case rel => exact ⟨trivial, _, rfl, by omega, by omega⟩
        case measure => simp [intOf]; omega

set_option maxHeartbeats 4000000 in
theorem rweek_no (n : Int) (w : World) (h : ¬ (-4371587 ≤ n ∧ n < 2932897 ∧ -4371587 ≤ n - Cal.wd n + 4 ∧ n - Cal.wd n + 4 < 2932897)) :
    Calls Tryd.prog 75 #[.int .i64 n] w fun e w' => e = .returned (.tuple #[.int .i64 0, .int .i64 0, .int .i64 0, .int .i64 30]) ∧ w = w' := by
  by_cases r : -4371587 ≤ n ∧ n < 2932897
  · obtain ⟨y, m, dd, v, e⟩ := Cal.some_date n r.1 r.2
    have D := fun w => rdate_num y m dd w v
    rw [e] at D
    have D := Lib.hid D
    have y1 := v.y1
    have y2 := v.y2
    have N : ∀ k, -9999 ≤ k → k ≤ 9999 → ¬ (Cal.op k ≤ n ∧ n < Cal.op (k + 1)) := by
      intro k a1 a2 ⟨b1, b2⟩
      have ow := Cal.op_wd k n
      have o1 : Cal.start k ≤ Cal.op k + 3 ∧ Cal.op k + 3 < Cal.start k + 7 := by unfold Cal.op Cal.wd; omega
      have o2 : Cal.start (k + 1) ≤ Cal.op (k + 1) + 3 ∧ Cal.op (k + 1) + 3 < Cal.start (k + 1) + 7 := by unfold Cal.op Cal.wd; omega
      have on := Cal.op_next k a1 a2
      have s1 : -4371587 ≤ Cal.start k := by unfold Cal.start; omega
      have s2 : Cal.start (k + 1) ≤ 2932897 := by unfold Cal.start; omega
      exact h ⟨r.1, r.2, by omega, by omega⟩
    have N := Lib.hid N
    clear v e h r
    go_enter Tryd.func75, Tryd.ntmps75
    go_wp2_with (go_at_call 71; (with_reducible refine (D.out _).mono ?_); rintro e w' ⟨rfl, rfl⟩)
    go_loopw [10] (fun kk wr => wr = w ∧ ∃ k : Int, kk = .int .i64 k ∧ y - 1 ≤ k ∧ k ≤ y + 2) (fun kk _ => (20000 - intOf kk).toNat)
    case atStart => exact ⟨rfl, _, rfl, by omega, by omega⟩
    case round =>
      obtain ⟨rfl, k, rfl, k1, k2⟩ := hrel
      by_cases kl : k ≤ y + 1
      · by_cases ki : -9999 ≤ k ∧ k ≤ 9999
        · have I := Lib.hid (fun w => inside_yes k w ki.1 ki.2)
          have F1 := Lib.hid (fun w => rfirst_any k w (by omega) (by omega))
          have F2 := Lib.hid (fun w => rfirst_any (k + 1) w (by omega) (by omega))
          have nn := N.out k ki.1 ki.2
          by_cases g : Cal.op k ≤ n
          · have g2 : ¬ n < Cal.op (k + 1) := fun x => nn ⟨g, x⟩
            clear nn ki
            go_wp2_with (first
              | (go_at_call 78; (with_reducible refine (I.out _).mono ?_); rintro e w' ⟨rfl, rfl⟩)
              | (go_at_call 79; (with_reducible refine (F1.out _).mono ?_); rintro e w' ⟨rfl, rfl⟩)
              | (go_at_call 79; (with_reducible refine (F2.out _).mono ?_); rintro e w' ⟨rfl, rfl⟩))
            all_goals go_roundw
            case rel => exact ⟨trivial, _, rfl, by omega, by omega⟩
            case measure => simp [intOf]; omega
          · clear nn ki
            go_wp2_with (first
              | (go_at_call 78; (with_reducible refine (I.out _).mono ?_); rintro e w' ⟨rfl, rfl⟩)
              | (go_at_call 79; (with_reducible refine (F1.out _).mono ?_); rintro e w' ⟨rfl, rfl⟩))
            all_goals go_roundw
            case rel => exact ⟨trivial, _, rfl, by omega, by omega⟩
            case measure => simp [intOf]; omega
        · have I := Lib.hid (fun w => inside_no k w ki)
          clear ki
          go_wp2_with (go_at_call 78; (with_reducible refine (I.out _).mono ?_); rintro e w' ⟨rfl, rfl⟩)
          all_goals go_roundw
          case rel => exact ⟨trivial, _, rfl, by omega, by omega⟩
          case measure => simp [intOf]; omega
      · go_wp2
        go_returns
        exact ⟨rfl, rfl⟩
  · have D := Lib.hid (fun w => rdate_err n w r)
    clear h r
    go_enter Tryd.func75, Tryd.ntmps75
    go_wp2_with (go_at_call 71; (with_reducible refine (D.out _).mono ?_); rintro e w' ⟨rfl, rfl⟩)
    go_returns
    exact ⟨rfl, rfl⟩
end Go.Proofs.YtllhcpkpbipjlaaDoor
