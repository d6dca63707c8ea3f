/- Ref, Ref2 in one. -/
import Derived.Test.YtllhcpkpbipjlaaDoorKb
namespace Go.Proofs.YtllhcpkpbipjlaaDoor
set_option linter.unusedVariables false
open Go.ChangeShapes Go.WideShapes Go.ChangeAt Go.RowKit

theorem rleap_any (y : Int) (w : World) :
    Calls Tryd.prog 76 #[.int .i64 y] w fun e w' => e = .returned (.bool (Cal.leap y)) ∧ w = w' := by
  have e4 := tmod_iff y 4 (by omega)
  have e100 := tmod_iff y 100 (by omega)
  have e400 := tmod_iff y 400 (by omega)
  by_cases c400 : y.tmod 400 = 0
  · have L := Lib.hid (show Cal.leap y = true by unfold Cal.leap; simp; omega)
    have d400 : (y.tmod 400 == 0) = true := by simpa using c400
    clear e4 e100 e400 c400
    go_enter Tryd.func76, Tryd.ntmps76
    go_wp2
    go_returns
    exact ⟨ret_bool L.out.symm, rfl⟩
  · have d400 : (y.tmod 400 == 0) = false := by simpa using c400
    by_cases c4 : y.tmod 4 = 0
    · have d4 : (y.tmod 4 == 0) = true := by simpa using c4
      by_cases c100 : y.tmod 100 = 0
      · have L := Lib.hid (show Cal.leap y = false by unfold Cal.leap; simp; omega)
        have d100 : (y.tmod 100 != 0) = false := by simpa using c100
        clear e4 e100 e400 c400 c4 c100
        go_enter Tryd.func76, Tryd.ntmps76
        go_wp2
        go_returns
        exact ⟨ret_bool L.out.symm, rfl⟩
      · have L := Lib.hid (show Cal.leap y = true by unfold Cal.leap; simp; omega)
        have d100 : (y.tmod 100 != 0) = true := by simpa using c100
        clear e4 e100 e400 c400 c4 c100
        go_enter Tryd.func76, Tryd.ntmps76
        go_wp2
        go_returns
        exact ⟨ret_bool L.out.symm, rfl⟩
    · have L := Lib.hid (show Cal.leap y = false by unfold Cal.leap; simp; omega)
      have d : (y.tmod 4 == 0) = false := by simpa using c4
      clear e4 e100 e400 c400 c4
      go_enter Tryd.func76, Tryd.ntmps76
      go_wp2
      go_returns
      exact ⟨ret_bool L.out.symm, rfl⟩
theorem rleap_yes (y : Int) (w : World) (h : Cal.leap y = true) :
    Calls Tryd.prog 76 #[.int .i64 y] w fun e w' => e = .returned (.bool true) ∧ w = w' := by
  have := rleap_any y w
  rw [h] at this
  exact this
theorem rleap_no (y : Int) (w : World) (h : Cal.leap y = false) :
    Calls Tryd.prog 76 #[.int .i64 y] w fun e w' => e = .returned (.bool false) ∧ w = w' := by
  have := rleap_any y w
  rw [h] at this
  exact this

theorem whole_any (y : Int) (w : World) :
    Calls Tryd.prog 77 #[.int .i64 y] w fun e w' => e = .returned (.int .i64 (365 + Cal.lp y)) ∧ w = w' := by
  have l := Cal.lp_leap y
  by_cases cl : Cal.leap y = true
  · have CL := Lib.hid cl
    rw [cl] at l
    have L := Lib.hid (show 366 = 365 + Cal.lp y by rw [l]; rfl)
    clear cl l
    go_enter Tryd.func77, Tryd.ntmps77
    go_wp2_with (go_at_call 76; (with_reducible refine (rleap_yes _ _ CL.out).mono ?_); rintro e w' ⟨rfl, rfl⟩)
    go_returns
    exact ⟨ret_int L.out, rfl⟩
  · have cl : Cal.leap y = false := by simpa using cl
    have CL := Lib.hid cl
    rw [cl] at l
    have L := Lib.hid (show 365 = 365 + Cal.lp y by rw [l]; rfl)
    clear cl l
    go_enter Tryd.func77, Tryd.ntmps77
    go_wp2_with (go_at_call 76; (with_reducible refine (rleap_no _ _ CL.out).mono ?_); rintro e w' ⟨rfl, rfl⟩)
    go_returns
    exact ⟨ret_int L.out, rfl⟩

theorem rweekday_any (n : Int) (w : World) :
    Calls Tryd.prog 80 #[.int .i64 n] w fun e w' => e = .returned (.int .i64 (Cal.wd n)) ∧ w = w' := by
  have e := Int.tmod_eq_emod (a := n) (b := 7)
  have b1 : -6 ≤ n.tmod 7 := by have := Int.lt_tmod_of_pos n (show (0 : Int) < 7 by omega); omega
  have b2 : n.tmod 7 ≤ 6 := by have := Int.tmod_lt_of_pos n (show (0 : Int) < 7 by omega); omega
  by_cases c : n.tmod 7 < 0
  · have F := Lib.hid (show (n.tmod 7 + 7 + 3) % 7 + 1 = Cal.wd n by unfold Cal.wd; split at e <;> omega)
    clear e
    go_enter Tryd.func80, Tryd.ntmps80
    go_wp2
    go_returns
    exact ⟨ret_int F.out, rfl⟩
  · have F := Lib.hid (show (n.tmod 7 + 3) % 7 + 1 = Cal.wd n by unfold Cal.wd; split at e <;> omega)
    clear e
    go_enter Tryd.func80, Tryd.ntmps80
    go_wp2
    go_returns
    exact ⟨ret_int F.out, rfl⟩

set_option maxHeartbeats 1000000 in
theorem rlength_any (y m : Int) (w : World) :
    Calls Tryd.prog 69 #[.int .i64 y, .int .i64 m] w fun e w' => e = .returned (.int .i64 (Cal.len y m)) ∧ w = w' := by
  have l := Cal.lp_leap y
  by_cases c : 1 ≤ m ∧ m ≤ 12
  · have hm : m = 1 ∨ m = 2 ∨ m = 3 ∨ m = 4 ∨ m = 5 ∨ m = 6 ∨ m = 7 ∨ m = 8 ∨ m = 9 ∨ m = 10 ∨ m = 11 ∨ m = 12 := by omega
    clear c
    rcases hm with rfl | rfl | rfl | rfl | rfl | rfl | rfl | rfl | rfl | rfl | rfl | rfl
    case inr.inl =>
      by_cases cl : Cal.leap y = true
      · have CL := Lib.hid cl
        rw [cl] at l
        have L := Lib.hid (show 29 = Cal.len y 2 by unfold Cal.len Cal.bef; rw [l]; rfl)
        clear cl l
        go_enter Tryd.func69, Tryd.ntmps69
        go_wp2_with (go_at_call 76; (with_reducible refine (rleap_yes _ _ CL.out).mono ?_); rintro e w' ⟨rfl, rfl⟩)
        go_returns
        exact ⟨ret_int L.out, rfl⟩
      · have cl : Cal.leap y = false := by simpa using cl
        have CL := Lib.hid cl
        rw [cl] at l
        have L := Lib.hid (show 28 = Cal.len y 2 by unfold Cal.len Cal.bef; rw [l]; rfl)
        clear cl l
        go_enter Tryd.func69, Tryd.ntmps69
        go_wp2_with (go_at_call 76; (with_reducible refine (rleap_no _ _ CL.out).mono ?_); rintro e w' ⟨rfl, rfl⟩)
        go_returns
        exact ⟨ret_int L.out, rfl⟩
    all_goals
      clear l
      go_enter Tryd.func69, Tryd.ntmps69
      go_wp2
      go_returns
      refine ⟨ret_int ?_, rfl⟩
      unfold Cal.len Cal.bef
      simp
      try omega
  · have R := Lib.hid (Cal.len_out y m c)
    have hm : m < 1 ∨ 12 < m := by omega
    clear c l
    rcases hm with h | h
    all_goals
      go_enter Tryd.func69, Tryd.ntmps69
      go_wp2
      go_returns
      exact ⟨ret_int R.out.symm, rfl⟩

namespace Cal
theorem start_bd2 (y : Int) (h1 : -10500 ≤ y) (h2 : y ≤ 10500) : -5000000 ≤ start y ∧ start y ≤ 5000000 := by unfold start; omega
theorem start_400' (y : Int) : start (y - 400) = start y - 146097 := by unfold start; omega
theorem start_pred (y : Int) : start (y - 1) = start y - (365 + lp (y - 1)) := by have := start_succ (y - 1); rw [show y - 1 + 1 = y from by omega] at this; omega
theorem start_1970 : start 1970 = 0 := by decide
end Cal

set_option maxHeartbeats 2000000 in
theorem begin_any (y : Int) (w : World) (h1 : -9999 ≤ y) (h2 : y ≤ 10000) :
    Calls Tryd.prog 70 #[.int .i64 y] w fun e w' => e = .returned (.int .i64 (Cal.start y)) ∧ w = w' := by
  go_enter Tryd.func70, Tryd.ntmps70
  go_wp2
  go_loop [3, 4] (fun a b => ∃ z : Int, -10400 ≤ z ∧ z ≤ 10400 ∧ b = .int .i64 z ∧ a = .int .i64 (Cal.start z)) (fun _ b => (y - intOf b).toNat)
  case atStart => exact ⟨1970, by omega, by omega, rfl, by rw [Cal.start_1970]⟩
  case round =>
    obtain ⟨z, z1, z2, rfl, rfl⟩ := hrel
    obtain ⟨s1, s2⟩ := Cal.start_bd2 z (by omega) (by omega)
    by_cases c : z + 400 ≤ y
    · have HS := Lib.hid (Cal.start_400 z)
      go_wp2
      all_goals go_round
      case rel => exact ⟨z + 400, by omega, by omega, rfl, by rw [HS.out]⟩
      case measure => simp [intOf]; omega
    · go_wp2
      go_loop [3, 4] (fun a b => ∃ z : Int, -10400 ≤ z ∧ z ≤ 10400 ∧ b = .int .i64 z ∧ a = .int .i64 (Cal.start z)) (fun _ b => (intOf b - y).toNat)
      case atStart => exact ⟨z, z1, z2, rfl, rfl⟩
      case round =>
        clear c s1 s2 z1 z2
        obtain ⟨z, z1, z2, rfl, rfl⟩ := hrel
        obtain ⟨s1, s2⟩ := Cal.start_bd2 z (by omega) (by omega)
        by_cases c : y ≤ z - 400
        · have HS := Lib.hid (Cal.start_400' z)
          go_wp2
          all_goals go_round
          case rel => exact ⟨z - 400, by omega, by omega, rfl, by rw [HS.out]⟩
          case measure => simp [intOf]; omega
        · go_wp2
          go_loop [3, 4] (fun a b => ∃ z : Int, -10400 ≤ z ∧ z ≤ 10400 ∧ b = .int .i64 z ∧ a = .int .i64 (Cal.start z)) (fun _ b => (y - intOf b).toNat)
          case atStart => exact ⟨z, z1, z2, rfl, rfl⟩
          case round =>
            clear c s1 s2 z1 z2
            obtain ⟨z, z1, z2, rfl, rfl⟩ := hrel
            obtain ⟨s1, s2⟩ := Cal.start_bd2 z (by omega) (by omega)
            obtain ⟨l1, l2⟩ := Cal.lp_01 z
            by_cases c : z < y
            · have HS := Lib.hid (Cal.start_succ z)
              go_wp2_with (go_at_call 77; (with_reducible refine (whole_any _ _).mono ?_); rintro e w' ⟨rfl, rfl⟩)
              all_goals go_round
              case rel => exact ⟨z + 1, by omega, by omega, rfl, by rw [HS.out, Int.add_assoc]⟩
              case measure => simp [intOf]; omega
            · go_wp2
              go_loop [3, 4] (fun a b => ∃ z : Int, y ≤ z ∧ z ≤ 10400 ∧ b = .int .i64 z ∧ a = .int .i64 (Cal.start z)) (fun _ b => (intOf b - y).toNat)
              case atStart => exact ⟨z, by omega, z2, rfl, rfl⟩
              case round =>
                clear c s1 s2 z1 z2 l1 l2
                obtain ⟨z, z1, z2, rfl, rfl⟩ := hrel
                obtain ⟨s1, s2⟩ := Cal.start_bd2 z (by omega) (by omega)
                obtain ⟨l1, l2⟩ := Cal.lp_01 (z - 1)
                by_cases c : y < z
                · have HS := Lib.hid (Cal.start_pred z)
                  go_wp2_with (go_at_call 77; (with_reducible refine (whole_any _ _).mono ?_); rintro e w' ⟨rfl, rfl⟩)
                  all_goals go_round
                  case rel => exact ⟨z - 1, by omega, by omega, rfl, by rw [HS.out]⟩
                  case measure => simp [intOf]; omega
                · obtain rfl : z = y := by omega
                  go_wp2
                  go_returns
                  exact ⟨rfl, rfl⟩

set_option maxHeartbeats 1000000 in
theorem rdays_valid (y m d : Int) (w : World) (h : Cal.Valid y m d) :
    Calls Tryd.prog 67 #[.int .i64 y, .int .i64 m, .int .i64 d] w fun e w' => e = .returned (.tuple #[.int .i64 (Cal.num y m d), .int .i64 0]) ∧ w = w' := by
  obtain ⟨m1, m2⟩ := h.month
  obtain ⟨y1, y2, d1, d2⟩ := h
  obtain ⟨s1, s2⟩ := Cal.start_bd y y1 (by omega)
  have H1 := Lib.hid (Cal.bef_one y)
  have R := Lib.hid (show Cal.start y + Cal.bef y m + d - 1 = Cal.num y m d from rfl)
  obtain ⟨l1, l2⟩ := Cal.len_bd y m m1 m2
  go_enter Tryd.func67, Tryd.ntmps67
  go_wp2_with (first
    | (go_at_call 69; (with_reducible refine (rlength_any _ _ _).mono ?_); rintro e w' ⟨rfl, rfl⟩)
    | (go_at_call 70; (with_reducible refine (begin_any _ _ (by omega) (by omega)).mono ?_); rintro e w' ⟨rfl, rfl⟩))
  go_loop [8, 9] (fun a b => ∃ j : Int, 1 ≤ j ∧ j ≤ m ∧ b = .int .i64 j ∧ a = .int .i64 (Cal.start y + Cal.bef y j)) (fun _ b => (m - intOf b).toNat)
  case atStart => exact ⟨1, by omega, by omega, rfl, by rw [H1.out, Int.add_zero]⟩
  case round =>
    obtain ⟨j, j1, j2, rfl, rfl⟩ := hrel
    obtain ⟨b1, b2⟩ := Cal.bef_bd y j (by omega) (by omega)
    obtain ⟨l3, l4⟩ := Cal.len_bd y j (by omega) (by omega)
    by_cases c : j < m
    · have HS := Lib.hid (show Cal.start y + Cal.bef y j + Cal.len y j = Cal.start y + Cal.bef y (j + 1) by rw [Cal.len_is y j (by omega) (by omega)]; omega)
      go_wp2_with (go_at_call 69; (with_reducible refine (rlength_any _ _ _).mono ?_); rintro e w' ⟨rfl, rfl⟩)
      all_goals go_round
      case rel => exact ⟨j + 1, by omega, by omega, rfl, by rw [HS.out]⟩
      case measure => simp [intOf]; omega
    · obtain rfl : j = m := by omega
      go_wp2
      go_returns
      exact ⟨ret_int2 R.out rfl, rfl⟩

theorem rdays_not (y m d : Int) (w : World) (h : ¬ Cal.Valid y m d) :
    Calls Tryd.prog 67 #[.int .i64 y, .int .i64 m, .int .i64 d] w fun e w' => e = .returned (.tuple #[.int .i64 0, .int .i64 30]) ∧ w = w' := by
  have h : ¬ (-9999 ≤ y ∧ y ≤ 9999 ∧ 1 ≤ d ∧ d ≤ Cal.len y m) := fun ⟨a, b, c, e⟩ => h ⟨a, b, c, e⟩
  by_cases c1 : y < -9999
  · clear h
    go_enter Tryd.func67, Tryd.ntmps67
    go_wp2
    go_returns
    exact ⟨rfl, rfl⟩
  · by_cases c2 : 9999 < y
    · clear h
      go_enter Tryd.func67, Tryd.ntmps67
      go_wp2
      go_returns
      exact ⟨rfl, rfl⟩
    · by_cases c3 : d < 1
      · clear h
        go_enter Tryd.func67, Tryd.ntmps67
        go_wp2
        go_returns
        exact ⟨rfl, rfl⟩
      · have c4 : Cal.len y m < d := by omega
        clear h
        go_enter Tryd.func67, Tryd.ntmps67
        go_wp2_with (first
          | (go_at_call 69; (with_reducible refine (rlength_any _ _ _).mono ?_); rintro e w' ⟨rfl, rfl⟩))
        go_returns
        exact ⟨rfl, rfl⟩

theorem begin_lo (w : World) : Calls Tryd.prog 70 #[.int .i64 (-9999)] w fun e w' => e = .returned (.int .i64 (-4371587)) ∧ w = w' :=
  begin_any (-9999) w (by omega) (by omega)
theorem begin_hi (w : World) : Calls Tryd.prog 70 #[.int .i64 10000] w fun e w' => e = .returned (.int .i64 2932897) ∧ w = w' :=
  begin_any 10000 w (by omega) (by omega)

theorem rdate_err (n : Int) (w : World) (h : ¬ (-4371587 ≤ n ∧ n < 2932897)) :
    Calls Tryd.prog 71 #[.int .i64 n] w fun e w' => e = .returned (.tuple #[.int .i64 0, .int .i64 0, .int .i64 0, .int .i64 30]) ∧ w = w' := by
  by_cases c1 : n < -4371587
  · clear h
    go_enter Tryd.func71, Tryd.ntmps71
    go_wp2_with (first
      | (go_at_call 70; (with_reducible refine (begin_lo _).mono ?_); rintro e w' ⟨rfl, rfl⟩))
    go_returns
    exact ⟨rfl, rfl⟩
  · have c2 : 2932897 ≤ n := by omega
    clear h
    go_enter Tryd.func71, Tryd.ntmps71
    go_wp2_with (first
      | (go_at_call 70; (with_reducible refine (begin_lo _).mono ?_); rintro e w' ⟨rfl, rfl⟩)
      | (go_at_call 70; (with_reducible refine (begin_hi _).mono ?_); rintro e w' ⟨rfl, rfl⟩))
    go_returns
    exact ⟨rfl, rfl⟩

set_option maxHeartbeats 2000000 in
theorem rdate_ok (n : Int) (w : World) (h1 : -4371587 ≤ n) (h2 : n < 2932897) :
    Calls Tryd.prog 71 #[.int .i64 n] w fun e w' => DateOf n e ∧ w = w' := by
  have e1 := Lib.hid (show Cal.start (-9999) = -4371587 by decide)
  have e2 := Lib.hid (show Cal.start 10000 = 2932897 by decide)
  go_enter Tryd.func71, Tryd.ntmps71
  go_wp2_with (first
      | (go_at_call 70; (with_reducible refine (begin_lo _).mono ?_); rintro e w' ⟨rfl, rfl⟩)
      | (go_at_call 70; (with_reducible refine (begin_hi _).mono ?_); rintro e w' ⟨rfl, rfl⟩))
  go_loop [6, 7] (fun a b => ∃ l h : Int, -9999 ≤ l ∧ l ≤ h ∧ h ≤ 9999 ∧ a = .int .i64 l ∧ b = .int .i64 h ∧ Cal.start l ≤ n ∧ n < Cal.start (h + 1)) (fun a b => (intOf b - intOf a).toNat)
  case atStart => exact ⟨-9999, 9999, by omega, by omega, by omega, rfl, rfl, by rw [e1.out]; omega, by rw [show (9999 : Int) + 1 = 10000 from rfl, e2.out]; omega⟩
  case round =>
    obtain ⟨l, h, l1, lh, h3, rfl, rfl, hl, hh⟩ := hrel
    by_cases c : l < h
    · by_cases cm : Cal.start (l + (h - l + 1) / 2) ≤ n
      · go_wp2_with (go_at_call 70; (with_reducible refine (begin_any _ _ (by omega) (by omega)).mono ?_); rintro e w' ⟨rfl, rfl⟩)
        all_goals go_round
        case rel => exact ⟨l + (h - l + 1) / 2, h, by omega, by omega, by omega, rfl, rfl, cm, hh⟩
        case measure => simp [intOf]; omega
      · go_wp2_with (go_at_call 70; (with_reducible refine (begin_any _ _ (by omega) (by omega)).mono ?_); rintro e w' ⟨rfl, rfl⟩)
        all_goals go_round
        case rel => exact ⟨l, l + (h - l + 1) / 2 - 1, by omega, by omega, by omega, rfl, rfl, hl, by rw [show l + (h - l + 1) / 2 - 1 + 1 = l + (h - l + 1) / 2 from by omega]; omega⟩
        case measure => simp [intOf]; omega
    · obtain rfl : h = l := by omega
      obtain ⟨s1, s2⟩ := Cal.start_bd h (by omega) (by omega)
      have H1 := Lib.hid (Cal.bef_one h)
      have H13 := Lib.hid (Cal.bef_last h)
      have HS := Lib.hid (Cal.start_succ h)
      go_wp2_with (go_at_call 70; (with_reducible refine (begin_any _ _ (by omega) (by omega)).mono ?_); rintro e w' ⟨rfl, rfl⟩)
      have HH := Lib.hid hh
      clear hh
      go_loop [9, 10] (fun a b => ∃ j : Int, 1 ≤ j ∧ j ≤ 12 ∧ b = .int .i64 j ∧ a = .int .i64 (n - Cal.start h - Cal.bef h j) ∧ Cal.bef h j ≤ n - Cal.start h) (fun _ b => (12 - intOf b).toNat)
      case atStart => exact ⟨1, by omega, by omega, rfl, by rw [H1.out, Int.sub_zero], by rw [H1.out]; omega⟩
      case round =>
        obtain ⟨j, j1, j2, rfl, rfl, hj⟩ := hrel
        obtain ⟨b1, b2⟩ := Cal.bef_bd h j (by omega) (by omega)
        obtain ⟨l3, l4⟩ := Cal.len_bd h j (by omega) (by omega)
        have HL := Lib.hid (Cal.len_is h j j1 j2)
        by_cases c2 : Cal.len h j ≤ n - Cal.start h - Cal.bef h j
        · have j3 : j < 12 := by
            by_cases e : j = 12
            · have a := HL.out
              have b := H13.out
              have d := HS.out
              have f := HH.out
              rw [e] at a c2
              have g : Cal.bef h (12 + 1) = Cal.bef h 13 := rfl
              omega
            · omega
          have E := Lib.hid (show n - Cal.start h - Cal.bef h j - Cal.len h j = n - Cal.start h - Cal.bef h (j + 1) by have := HL.out; omega)
          go_wp2_with (go_at_call 69; (with_reducible refine (rlength_any _ _ _).mono ?_); rintro e w' ⟨rfl, rfl⟩)
          all_goals go_round
          case rel => exact ⟨j + 1, by omega, by omega, rfl, by rw [E.out], by have := HL.out; omega⟩
          case measure => simp [intOf]; omega
        · go_wp2_with (go_at_call 69; (with_reducible refine (rlength_any _ _ _).mono ?_); rintro e w' ⟨rfl, rfl⟩)
          go_returns
          exact ⟨⟨h, j, _, rfl, by omega, by omega, j1, j2, by omega, by omega, by unfold Cal.num; omega⟩, rfl⟩

theorem rdate_num (y m d : Int) (w : World) (h : Cal.Valid y m d) :
    Calls Tryd.prog 71 #[.int .i64 (Cal.num y m d)] w fun e w' => e = .returned (.tuple #[.int .i64 y, .int .i64 m, .int .i64 d, .int .i64 0]) ∧ w = w' := by
  obtain ⟨r1, r2⟩ := h.range
  refine (rdate_ok _ w r1 r2).mono ?_
  rintro e w' ⟨⟨y', m', d', rfl, a1, a2, a3, a4, a5, a6, a7⟩, hw⟩
  obtain ⟨rfl, rfl, rfl⟩ := Cal.num_inj h ⟨a1, a2, a5, a6⟩ a7.symm
  exact ⟨rfl, hw⟩

end Go.Proofs.YtllhcpkpbipjlaaDoor
