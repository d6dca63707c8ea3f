/- The walk of the law CivilCycle. -/
import Derived.Test.YtplbdfdpcgmcjacDoorLaw
namespace Go.Proofs.YtplbdfdpcgmcjacDoor
set_option linter.unusedVariables false
open Go.ChangeShapes Go.WideShapes Go.ChangeAt Go.RowKit

namespace Cal
theorem wd_cycle (n : Int) : wd (n + 146097) = wd n := by unfold wd; omega
theorem num_400 (y m d : Int) : num (y + 400) m d = num y m d + 146097 := by
  unfold num
  rw [start_400, bef_400]
  omega
theorem first (y : Int) : num y 1 1 = start y := by unfold num; rw [bef_one]; omega
theorem last (y : Int) : num y 12 31 = start y + 364 + lp y := by
  have := lp_01 y
  unfold num bef
  simp
  omega
theorem valid_first (y : Int) (h1 : -9999 ≤ y) (h2 : y ≤ 9999) : Valid y 1 1 := ⟨h1, h2, by omega, by have := len_bd y 1 (by omega) (by omega); omega⟩
theorem valid_last (y : Int) (h1 : -9999 ≤ y) (h2 : y ≤ 9999) : Valid y 12 31 := ⟨h1, h2, by omega, by
  rw [len_is y 12 (by omega) (by omega)]
  have := bef_last y
  have := lp_01 y
  have e : bef y (12 + 1) = bef y 13 := rfl
  have f : bef y 12 = 334 + lp y := by unfold bef; simp; omega
  omega⟩
end Cal

set_option maxRecDepth 100000 in
set_option maxHeartbeats 2000000 in
theorem cycle_a_yes (y m d n s k : Int) (w : World) (HT : Hid (Tab w)) (hy1 : -9999 ≤ y) (hy2 : y ≤ 9999) (hA : y ≤ 9599) (n1 : -4371587 ≤ n) (n2 : n < 2932897) (s1 : -4371587 ≤ s) (s2 : s ≤ 2932897)
    (HL : Hid (Cal.leap y = true)) (H13 : Hid (Cal.bef y 13 = 366)) (H1 : Hid (Cal.bef y 1 = 0))
    (D : Hid (∀ w, Tab w → Calls Tryd.prog 8 #[.int .i64 y, .int .i64 m, .int .i64 d] w fun e w' => e = .returned (.tuple #[.int .i64 n, .int .i64 0]) ∧ w = w'))
    (D2 : Hid (∀ w, Tab w → Calls Tryd.prog 8 #[.int .i64 (y + 400), .int .i64 m, .int .i64 d] w fun e w' => e = .returned (.tuple #[.int .i64 (n + 146097), .int .i64 0]) ∧ w = w'))
    (W1 : Hid (∀ w, Calls Tryd.prog 16 #[.int .i64 n] w fun e w' => e = .returned (.int .i64 k) ∧ w = w'))
    (W2 : Hid (∀ w, Calls Tryd.prog 16 #[.int .i64 (n + 146097)] w fun e w' => e = .returned (.int .i64 k) ∧ w = w'))
    (E1 : Hid (∀ w, Tab w → Calls Tryd.prog 8 #[.int .i64 y, .int .i64 1, .int .i64 1] w fun e w' => e = .returned (.tuple #[.int .i64 s, .int .i64 0]) ∧ w = w'))
    (E2 : Hid (∀ w, Tab w → Calls Tryd.prog 8 #[.int .i64 y, .int .i64 12, .int .i64 31] w fun e w' => e = .returned (.tuple #[.int .i64 (s + 365), .int .i64 0]) ∧ w = w')) :
    Calls Tryd.prog 5 #[.int .i64 y, .int .i64 m, .int .i64 d] w fun e w' => e = .returned (.bool true) ∧ w = w' := by
  go_enter Tryd.func5, Tryd.ntmps5
  go_wp2_with (first
    | (go_at_call 8; (with_reducible refine (D.out _ HT.out).mono ?_); rintro e w' ⟨rfl, rfl⟩)
    | (go_at_call 8; (with_reducible refine (D2.out _ HT.out).mono ?_); rintro e w' ⟨rfl, rfl⟩)
    | (go_at_call 16; (with_reducible refine (W1.out _).mono ?_); rintro e w' ⟨rfl, rfl⟩)
    | (go_at_call 16; (with_reducible refine (W2.out _).mono ?_); rintro e w' ⟨rfl, rfl⟩)
    | (go_at_call 8; (with_reducible refine (E1.out _ HT.out).mono ?_); rintro e w' ⟨rfl, rfl⟩)
    | (go_at_call 8; (with_reducible refine (E2.out _ HT.out).mono ?_); rintro e w' ⟨rfl, rfl⟩)
    | (go_at_call 12; (with_reducible refine (leap_yes _ _ HL.out).mono ?_); rintro e w' ⟨rfl, rfl⟩)
    | (go_at_call 18; (with_reducible refine (awake_any _ HT.out).mono ?_); rintro e w' ⟨rfl, rfl⟩))
  go_loop [11, 12] (fun a b => ∃ j : Int, 1 ≤ j ∧ j ≤ 13 ∧ b = .int .i64 j ∧ a = .int .i64 (Cal.bef y j)) (fun _ b => (13 - intOf b).toNat)
  case atStart => exact ⟨1, by omega, by omega, rfl, by rw [H1.out]⟩
  case round =>
    obtain ⟨j, hj1, hj2, rfl, rfl⟩ := hrel
    obtain ⟨c1, c2⟩ := Cal.bef_bd y j hj1 (by omega)
    by_cases hj : j ≤ 12
    · obtain ⟨c3, c4⟩ := Cal.bef_bd y (j + 1) (by omega) (by omega)
      obtain ⟨c5, c6⟩ := Cal.len_bd y j (by omega) (by omega)
      have HS := Lib.hid (show Cal.bef y j + Cal.len y j = Cal.bef y (j + 1) by rw [Cal.len_is y j hj1 hj]; omega)
      go_wp2_with (go_at_call 14; (with_reducible refine (length_any _ _ _ HT.out).mono ?_); rintro e w' ⟨rfl, rfl⟩)
      go_round
      case rel => exact ⟨j + 1, by omega, by omega, rfl, by rw [HS.out]⟩
      case measure => simp [intOf]; omega
    · obtain rfl : j = 13 := by omega
      have e13 := H13.out
      rw [e13]
      clear c1 c2 e13
      go_wp2_with (first
    | (go_at_call 8; (with_reducible refine (D.out _ HT.out).mono ?_); rintro e w' ⟨rfl, rfl⟩)
    | (go_at_call 8; (with_reducible refine (D2.out _ HT.out).mono ?_); rintro e w' ⟨rfl, rfl⟩)
    | (go_at_call 16; (with_reducible refine (W1.out _).mono ?_); rintro e w' ⟨rfl, rfl⟩)
    | (go_at_call 16; (with_reducible refine (W2.out _).mono ?_); rintro e w' ⟨rfl, rfl⟩)
    | (go_at_call 8; (with_reducible refine (E1.out _ HT.out).mono ?_); rintro e w' ⟨rfl, rfl⟩)
    | (go_at_call 8; (with_reducible refine (E2.out _ HT.out).mono ?_); rintro e w' ⟨rfl, rfl⟩)
    | (go_at_call 12; (with_reducible refine (leap_yes _ _ HL.out).mono ?_); rintro e w' ⟨rfl, rfl⟩)
    | (go_at_call 18; (with_reducible refine (awake_any _ HT.out).mono ?_); rintro e w' ⟨rfl, rfl⟩))
      go_returns
      exact ⟨rfl, rfl⟩

set_option maxRecDepth 100000 in
set_option maxHeartbeats 2000000 in
theorem cycle_a_no (y m d n s k : Int) (w : World) (HT : Hid (Tab w)) (hy1 : -9999 ≤ y) (hy2 : y ≤ 9999) (hA : y ≤ 9599) (n1 : -4371587 ≤ n) (n2 : n < 2932897) (s1 : -4371587 ≤ s) (s2 : s ≤ 2932897)
    (HL : Hid (Cal.leap y = false)) (H13 : Hid (Cal.bef y 13 = 365)) (H1 : Hid (Cal.bef y 1 = 0))
    (D : Hid (∀ w, Tab w → Calls Tryd.prog 8 #[.int .i64 y, .int .i64 m, .int .i64 d] w fun e w' => e = .returned (.tuple #[.int .i64 n, .int .i64 0]) ∧ w = w'))
    (D2 : Hid (∀ w, Tab w → Calls Tryd.prog 8 #[.int .i64 (y + 400), .int .i64 m, .int .i64 d] w fun e w' => e = .returned (.tuple #[.int .i64 (n + 146097), .int .i64 0]) ∧ w = w'))
    (W1 : Hid (∀ w, Calls Tryd.prog 16 #[.int .i64 n] w fun e w' => e = .returned (.int .i64 k) ∧ w = w'))
    (W2 : Hid (∀ w, Calls Tryd.prog 16 #[.int .i64 (n + 146097)] w fun e w' => e = .returned (.int .i64 k) ∧ w = w'))
    (E1 : Hid (∀ w, Tab w → Calls Tryd.prog 8 #[.int .i64 y, .int .i64 1, .int .i64 1] w fun e w' => e = .returned (.tuple #[.int .i64 s, .int .i64 0]) ∧ w = w'))
    (E2 : Hid (∀ w, Tab w → Calls Tryd.prog 8 #[.int .i64 y, .int .i64 12, .int .i64 31] w fun e w' => e = .returned (.tuple #[.int .i64 (s + 364), .int .i64 0]) ∧ w = w')) :
    Calls Tryd.prog 5 #[.int .i64 y, .int .i64 m, .int .i64 d] w fun e w' => e = .returned (.bool true) ∧ w = w' := by
  go_enter Tryd.func5, Tryd.ntmps5
  go_wp2_with (first
    | (go_at_call 8; (with_reducible refine (D.out _ HT.out).mono ?_); rintro e w' ⟨rfl, rfl⟩)
    | (go_at_call 8; (with_reducible refine (D2.out _ HT.out).mono ?_); rintro e w' ⟨rfl, rfl⟩)
    | (go_at_call 16; (with_reducible refine (W1.out _).mono ?_); rintro e w' ⟨rfl, rfl⟩)
    | (go_at_call 16; (with_reducible refine (W2.out _).mono ?_); rintro e w' ⟨rfl, rfl⟩)
    | (go_at_call 8; (with_reducible refine (E1.out _ HT.out).mono ?_); rintro e w' ⟨rfl, rfl⟩)
    | (go_at_call 8; (with_reducible refine (E2.out _ HT.out).mono ?_); rintro e w' ⟨rfl, rfl⟩)
    | (go_at_call 12; (with_reducible refine (leap_no _ _ HL.out).mono ?_); rintro e w' ⟨rfl, rfl⟩)
    | (go_at_call 18; (with_reducible refine (awake_any _ HT.out).mono ?_); rintro e w' ⟨rfl, rfl⟩))
  go_loop [11, 12] (fun a b => ∃ j : Int, 1 ≤ j ∧ j ≤ 13 ∧ b = .int .i64 j ∧ a = .int .i64 (Cal.bef y j)) (fun _ b => (13 - intOf b).toNat)
  case atStart => exact ⟨1, by omega, by omega, rfl, by rw [H1.out]⟩
  case round =>
    obtain ⟨j, hj1, hj2, rfl, rfl⟩ := hrel
    obtain ⟨c1, c2⟩ := Cal.bef_bd y j hj1 (by omega)
    by_cases hj : j ≤ 12
    · obtain ⟨c3, c4⟩ := Cal.bef_bd y (j + 1) (by omega) (by omega)
      obtain ⟨c5, c6⟩ := Cal.len_bd y j (by omega) (by omega)
      have HS := Lib.hid (show Cal.bef y j + Cal.len y j = Cal.bef y (j + 1) by rw [Cal.len_is y j hj1 hj]; omega)
      go_wp2_with (go_at_call 14; (with_reducible refine (length_any _ _ _ HT.out).mono ?_); rintro e w' ⟨rfl, rfl⟩)
      go_round
      case rel => exact ⟨j + 1, by omega, by omega, rfl, by rw [HS.out]⟩
      case measure => simp [intOf]; omega
    · obtain rfl : j = 13 := by omega
      have e13 := H13.out
      rw [e13]
      clear c1 c2 e13
      go_wp2_with (first
    | (go_at_call 8; (with_reducible refine (D.out _ HT.out).mono ?_); rintro e w' ⟨rfl, rfl⟩)
    | (go_at_call 8; (with_reducible refine (D2.out _ HT.out).mono ?_); rintro e w' ⟨rfl, rfl⟩)
    | (go_at_call 16; (with_reducible refine (W1.out _).mono ?_); rintro e w' ⟨rfl, rfl⟩)
    | (go_at_call 16; (with_reducible refine (W2.out _).mono ?_); rintro e w' ⟨rfl, rfl⟩)
    | (go_at_call 8; (with_reducible refine (E1.out _ HT.out).mono ?_); rintro e w' ⟨rfl, rfl⟩)
    | (go_at_call 8; (with_reducible refine (E2.out _ HT.out).mono ?_); rintro e w' ⟨rfl, rfl⟩)
    | (go_at_call 12; (with_reducible refine (leap_no _ _ HL.out).mono ?_); rintro e w' ⟨rfl, rfl⟩)
    | (go_at_call 18; (with_reducible refine (awake_any _ HT.out).mono ?_); rintro e w' ⟨rfl, rfl⟩))
      go_returns
      exact ⟨rfl, rfl⟩

set_option maxRecDepth 100000 in
set_option maxHeartbeats 2000000 in
theorem cycle_b_yes (y m d n s : Int) (w : World) (HT : Hid (Tab w)) (hy1 : -9999 ≤ y) (hy2 : y ≤ 9999) (hA : 9599 < y) (n1 : -4371587 ≤ n) (n2 : n < 2932897) (s1 : -4371587 ≤ s) (s2 : s ≤ 2932897)
    (HL : Hid (Cal.leap y = true)) (H13 : Hid (Cal.bef y 13 = 366)) (H1 : Hid (Cal.bef y 1 = 0))
    (D : Hid (∀ w, Tab w → Calls Tryd.prog 8 #[.int .i64 y, .int .i64 m, .int .i64 d] w fun e w' => e = .returned (.tuple #[.int .i64 n, .int .i64 0]) ∧ w = w'))
    (E1 : Hid (∀ w, Tab w → Calls Tryd.prog 8 #[.int .i64 y, .int .i64 1, .int .i64 1] w fun e w' => e = .returned (.tuple #[.int .i64 s, .int .i64 0]) ∧ w = w'))
    (E2 : Hid (∀ w, Tab w → Calls Tryd.prog 8 #[.int .i64 y, .int .i64 12, .int .i64 31] w fun e w' => e = .returned (.tuple #[.int .i64 (s + 365), .int .i64 0]) ∧ w = w')) :
    Calls Tryd.prog 5 #[.int .i64 y, .int .i64 m, .int .i64 d] w fun e w' => e = .returned (.bool true) ∧ w = w' := by
  go_enter Tryd.func5, Tryd.ntmps5
  go_wp2_with (first
    | (go_at_call 8; (with_reducible refine (D.out _ HT.out).mono ?_); rintro e w' ⟨rfl, rfl⟩)
    | (go_at_call 8; (with_reducible refine (E1.out _ HT.out).mono ?_); rintro e w' ⟨rfl, rfl⟩)
    | (go_at_call 8; (with_reducible refine (E2.out _ HT.out).mono ?_); rintro e w' ⟨rfl, rfl⟩)
    | (go_at_call 12; (with_reducible refine (leap_yes _ _ HL.out).mono ?_); rintro e w' ⟨rfl, rfl⟩)
    | (go_at_call 18; (with_reducible refine (awake_any _ HT.out).mono ?_); rintro e w' ⟨rfl, rfl⟩))
  go_loop [11, 12] (fun a b => ∃ j : Int, 1 ≤ j ∧ j ≤ 13 ∧ b = .int .i64 j ∧ a = .int .i64 (Cal.bef y j)) (fun _ b => (13 - intOf b).toNat)
  case atStart => exact ⟨1, by omega, by omega, rfl, by rw [H1.out]⟩
  case round =>
    obtain ⟨j, hj1, hj2, rfl, rfl⟩ := hrel
    obtain ⟨c1, c2⟩ := Cal.bef_bd y j hj1 (by omega)
    by_cases hj : j ≤ 12
    · obtain ⟨c3, c4⟩ := Cal.bef_bd y (j + 1) (by omega) (by omega)
      obtain ⟨c5, c6⟩ := Cal.len_bd y j (by omega) (by omega)
      have HS := Lib.hid (show Cal.bef y j + Cal.len y j = Cal.bef y (j + 1) by rw [Cal.len_is y j hj1 hj]; omega)
      go_wp2_with (go_at_call 14; (with_reducible refine (length_any _ _ _ HT.out).mono ?_); rintro e w' ⟨rfl, rfl⟩)
      go_round
      case rel => exact ⟨j + 1, by omega, by omega, rfl, by rw [HS.out]⟩
      case measure => simp [intOf]; omega
    · obtain rfl : j = 13 := by omega
      have e13 := H13.out
      rw [e13]
      clear c1 c2 e13
      go_wp2_with (first
    | (go_at_call 8; (with_reducible refine (D.out _ HT.out).mono ?_); rintro e w' ⟨rfl, rfl⟩)
    | (go_at_call 8; (with_reducible refine (E1.out _ HT.out).mono ?_); rintro e w' ⟨rfl, rfl⟩)
    | (go_at_call 8; (with_reducible refine (E2.out _ HT.out).mono ?_); rintro e w' ⟨rfl, rfl⟩)
    | (go_at_call 12; (with_reducible refine (leap_yes _ _ HL.out).mono ?_); rintro e w' ⟨rfl, rfl⟩)
    | (go_at_call 18; (with_reducible refine (awake_any _ HT.out).mono ?_); rintro e w' ⟨rfl, rfl⟩))
      go_returns
      exact ⟨rfl, rfl⟩

set_option maxRecDepth 100000 in
set_option maxHeartbeats 2000000 in
theorem cycle_b_no (y m d n s : Int) (w : World) (HT : Hid (Tab w)) (hy1 : -9999 ≤ y) (hy2 : y ≤ 9999) (hA : 9599 < y) (n1 : -4371587 ≤ n) (n2 : n < 2932897) (s1 : -4371587 ≤ s) (s2 : s ≤ 2932897)
    (HL : Hid (Cal.leap y = false)) (H13 : Hid (Cal.bef y 13 = 365)) (H1 : Hid (Cal.bef y 1 = 0))
    (D : Hid (∀ w, Tab w → Calls Tryd.prog 8 #[.int .i64 y, .int .i64 m, .int .i64 d] w fun e w' => e = .returned (.tuple #[.int .i64 n, .int .i64 0]) ∧ w = w'))
    (E1 : Hid (∀ w, Tab w → Calls Tryd.prog 8 #[.int .i64 y, .int .i64 1, .int .i64 1] w fun e w' => e = .returned (.tuple #[.int .i64 s, .int .i64 0]) ∧ w = w'))
    (E2 : Hid (∀ w, Tab w → Calls Tryd.prog 8 #[.int .i64 y, .int .i64 12, .int .i64 31] w fun e w' => e = .returned (.tuple #[.int .i64 (s + 364), .int .i64 0]) ∧ w = w')) :
    Calls Tryd.prog 5 #[.int .i64 y, .int .i64 m, .int .i64 d] w fun e w' => e = .returned (.bool true) ∧ w = w' := by
  go_enter Tryd.func5, Tryd.ntmps5
  go_wp2_with (first
    | (go_at_call 8; (with_reducible refine (D.out _ HT.out).mono ?_); rintro e w' ⟨rfl, rfl⟩)
    | (go_at_call 8; (with_reducible refine (E1.out _ HT.out).mono ?_); rintro e w' ⟨rfl, rfl⟩)
    | (go_at_call 8; (with_reducible refine (E2.out _ HT.out).mono ?_); rintro e w' ⟨rfl, rfl⟩)
    | (go_at_call 12; (with_reducible refine (leap_no _ _ HL.out).mono ?_); rintro e w' ⟨rfl, rfl⟩)
    | (go_at_call 18; (with_reducible refine (awake_any _ HT.out).mono ?_); rintro e w' ⟨rfl, rfl⟩))
  go_loop [11, 12] (fun a b => ∃ j : Int, 1 ≤ j ∧ j ≤ 13 ∧ b = .int .i64 j ∧ a = .int .i64 (Cal.bef y j)) (fun _ b => (13 - intOf b).toNat)
  case atStart => exact ⟨1, by omega, by omega, rfl, by rw [H1.out]⟩
  case round =>
    obtain ⟨j, hj1, hj2, rfl, rfl⟩ := hrel
    obtain ⟨c1, c2⟩ := Cal.bef_bd y j hj1 (by omega)
    by_cases hj : j ≤ 12
    · obtain ⟨c3, c4⟩ := Cal.bef_bd y (j + 1) (by omega) (by omega)
      obtain ⟨c5, c6⟩ := Cal.len_bd y j (by omega) (by omega)
      have HS := Lib.hid (show Cal.bef y j + Cal.len y j = Cal.bef y (j + 1) by rw [Cal.len_is y j hj1 hj]; omega)
      go_wp2_with (go_at_call 14; (with_reducible refine (length_any _ _ _ HT.out).mono ?_); rintro e w' ⟨rfl, rfl⟩)
      go_round
      case rel => exact ⟨j + 1, by omega, by omega, rfl, by rw [HS.out]⟩
      case measure => simp [intOf]; omega
    · obtain rfl : j = 13 := by omega
      have e13 := H13.out
      rw [e13]
      clear c1 c2 e13
      go_wp2_with (first
    | (go_at_call 8; (with_reducible refine (D.out _ HT.out).mono ?_); rintro e w' ⟨rfl, rfl⟩)
    | (go_at_call 8; (with_reducible refine (E1.out _ HT.out).mono ?_); rintro e w' ⟨rfl, rfl⟩)
    | (go_at_call 8; (with_reducible refine (E2.out _ HT.out).mono ?_); rintro e w' ⟨rfl, rfl⟩)
    | (go_at_call 12; (with_reducible refine (leap_no _ _ HL.out).mono ?_); rintro e w' ⟨rfl, rfl⟩)
    | (go_at_call 18; (with_reducible refine (awake_any _ HT.out).mono ?_); rintro e w' ⟨rfl, rfl⟩))
      go_returns
      exact ⟨rfl, rfl⟩

theorem cycle_walk (y m d : Int) (w : World) (hT : Tab w) :
    Calls Tryd.prog 5 #[.int .i64 y, .int .i64 m, .int .i64 d] w fun e w' => e = .returned (.bool true) ∧ w = w' := by
  by_cases v : Cal.Valid y m d
  · have r := v.range
    have h1 := v.y1
    have h2 := v.y2
    have s := Cal.start_bd y h1 (by omega)
    have l := Cal.lp_leap y
    have H1 := Lib.hid (Cal.bef_one y)
    have b13 := Cal.bef_last y
    have D := Lib.hid (fun w hT => days_valid y m d w hT v)
    have W1 := Lib.hid (fun w => weekday_any (Cal.num y m d) w)
    have W2 := Lib.hid (fun w => weekday_any (Cal.num y m d + 146097) w)
    rw [Cal.wd_cycle] at W2
    have E1 := Lib.hid (fun w hT => days_valid y 1 1 w hT (Cal.valid_first y h1 h2))
    rw [Cal.first] at E1
    have E2 := Lib.hid (fun w hT => days_valid y 12 31 w hT (Cal.valid_last y h1 h2))
    rw [Cal.last] at E2
    by_cases c : y ≤ 9599
    · have v4 : Cal.Valid (y + 400) m d := ⟨by omega, by omega, v.d1, by rw [Cal.len_400]; exact v.d2⟩
      have D2 := Lib.hid (fun w hT => days_valid (y + 400) m d w hT v4)
      rw [Cal.num_400] at D2
      by_cases cl : Cal.leap y = true
      · rw [l, cl] at E2 b13
        exact cycle_a_yes y m d _ _ _ w (Lib.hid hT) h1 h2 c r.1 r.2 s.1 s.2 (Lib.hid cl) (Lib.hid b13) H1 D D2 W1 W2 E1 (by simpa [Int.add_assoc] using E2)
      · have cl : Cal.leap y = false := by simpa using cl
        rw [l, cl] at E2 b13
        exact cycle_a_no y m d _ _ _ w (Lib.hid hT) h1 h2 c r.1 r.2 s.1 s.2 (Lib.hid cl) (Lib.hid b13) H1 D D2 W1 W2 E1 (by simpa using E2)
    · have v4 : ¬ Cal.Valid (y + 400) m d := fun h => by have := h.y2; omega
      by_cases cl : Cal.leap y = true
      · rw [l, cl] at E2 b13
        exact cycle_b_yes y m d _ _ w (Lib.hid hT) h1 h2 (by omega) r.1 r.2 s.1 s.2 (Lib.hid cl) (Lib.hid b13) H1 D E1 (by simpa [Int.add_assoc] using E2)
      · have cl : Cal.leap y = false := by simpa using cl
        rw [l, cl] at E2 b13
        exact cycle_b_no y m d _ _ w (Lib.hid hT) h1 h2 (by omega) r.1 r.2 s.1 s.2 (Lib.hid cl) (Lib.hid b13) H1 D E1 (by simpa using E2)
  · have D := Lib.hid (fun w hT => days_not y m d w hT v)
    have HT := Lib.hid hT
    clear hT v
    go_enter Tryd.func5, Tryd.ntmps5
    go_wp2_with (first
      | (go_at_call 8; (with_reducible refine (D.out _ HT.out).mono ?_); rintro e w' ⟨rfl, rfl⟩)
      | (go_at_call 18; (with_reducible refine (awake_any _ HT.out).mono ?_); rintro e w' ⟨rfl, rfl⟩))
    go_returns
    exact ⟨rfl, rfl⟩

theorem cycle_law (y m d : Int) (w : World) (tab : ∀ i : Nat, i < 13 → w.cell? ⟨0, i, none⟩ = some (.int .i64 ([0, 31, 59, 90, 120, 151, 181, 212, 243, 273, 304, 334, 365].getD i 0)))
    (_ : -9223372036854775808 ≤ y) (_ : y ≤ 9223372036854775807) (_ : -9223372036854775808 ≤ m) (_ : m ≤ 9223372036854775807) (_ : -9223372036854775808 ≤ d) (_ : d ≤ 9223372036854775807) :
    Calls Tryd.prog 5 #[.int .i64 y, .int .i64 m, .int .i64 d] w fun e w' => e = .returned (.bool true) ∧ Below w.heap.size w w' :=
  (cycle_walk y m d w (tab_of tab)).mono fun e w' ⟨a, b⟩ => ⟨a, b ▸ Below.refl _ _⟩
end Go.Proofs.YtplbdfdpcgmcjacDoor
