/- Contracts of the document's own answer for layer 3: the loops. -/
import Derived.Test.YtacpcokmgahjaaaDoorRf1
namespace Go.Proofs.YtacpcokmgahjaaaDoor
set_option linter.unusedVariables false
open Go.ChangeShapes Go.WideShapes Go.ChangeAt Go.RowKit

namespace Cal
theorem start_bd2 (y : Int) (h1 : -10500 ≤ y) (h2 : y ≤ 10500) : -5000000 ≤ start y ∧ start y ≤ 5000000 := by unfold start; omega
theorem start_400' (y : Int) : start (y - 400) = start y - 146097 := by unfold start; omega
theorem start_pred (y : Int) : start (y - 1) = start y - (365 + lp (y - 1)) := by have := start_succ (y - 1); rw [show y - 1 + 1 = y from by omega] at this; omega
theorem start_1970 : start 1970 = 0 := by decide
end Cal

set_option maxHeartbeats 2000000 in
theorem begin_any (y : Int) (w : World) (h1 : -9999 ≤ y) (h2 : y ≤ 10000) :
    Calls Tryd.prog 109 #[.int .i64 y] w fun e w' => e = .returned (.int .i64 (Cal.start y)) ∧ w = w' := by
  go_enter Tryd.func109, Tryd.ntmps109
  go_wp2
  go_loop [3, 4] (fun a b => ∃ z : Int, -10400 ≤ z ∧ z ≤ 10400 ∧ b = .int .i64 z ∧ a = .int .i64 (Cal.start z)) (fun _ b => (y - intOf b).toNat)
  case atStart => exact ⟨1970, by omega, by omega, rfl, by rw [Cal.start_1970]⟩
  case round =>
    obtain ⟨z, z1, z2, rfl, rfl⟩ := hrel
    obtain ⟨s1, s2⟩ := Cal.start_bd2 z (by omega) (by omega)
    by_cases c : z + 400 ≤ y
    · have HS := Lib.hid (Cal.start_400 z)
      go_wp2
      all_goals go_round
      case rel => exact ⟨z + 400, by omega, by omega, rfl, by rw [HS.out]⟩
      case measure => simp [intOf]; omega
    · go_wp2
      go_loop [3, 4] (fun a b => ∃ z : Int, -10400 ≤ z ∧ z ≤ 10400 ∧ b = .int .i64 z ∧ a = .int .i64 (Cal.start z)) (fun _ b => (intOf b - y).toNat)
      case atStart => exact ⟨z, z1, z2, rfl, rfl⟩
      case round =>
        clear c s1 s2 z1 z2
        obtain ⟨z, z1, z2, rfl, rfl⟩ := hrel
        obtain ⟨s1, s2⟩ := Cal.start_bd2 z (by omega) (by omega)
        by_cases c : y ≤ z - 400
        · have HS := Lib.hid (Cal.start_400' z)
          go_wp2
          all_goals go_round
          case rel => exact ⟨z - 400, by omega, by omega, rfl, by rw [HS.out]⟩
          case measure => simp [intOf]; omega
        · go_wp2
          go_loop [3, 4] (fun a b => ∃ z : Int, -10400 ≤ z ∧ z ≤ 10400 ∧ b = .int .i64 z ∧ a = .int .i64 (Cal.start z)) (fun _ b => (y - intOf b).toNat)
          case atStart => exact ⟨z, z1, z2, rfl, rfl⟩
          case round =>
            clear c s1 s2 z1 z2
            obtain ⟨z, z1, z2, rfl, rfl⟩ := hrel
            obtain ⟨s1, s2⟩ := Cal.start_bd2 z (by omega) (by omega)
            obtain ⟨l1, l2⟩ := Cal.lp_01 z
            by_cases c : z < y
            · have HS := Lib.hid (Cal.start_succ z)
              go_wp2_with (go_at_call 117; (with_reducible refine (whole_any _ _).mono ?_); rintro e w' ⟨rfl, rfl⟩)
              all_goals go_round
              case rel => exact ⟨z + 1, by omega, by omega, rfl, by rw [HS.out, Int.add_assoc]⟩
              case measure => simp [intOf]; omega
            · go_wp2
              go_loop [3, 4] (fun a b => ∃ z : Int, y ≤ z ∧ z ≤ 10400 ∧ b = .int .i64 z ∧ a = .int .i64 (Cal.start z)) (fun _ b => (intOf b - y).toNat)
              case atStart => exact ⟨z, by omega, z2, rfl, rfl⟩
              case round =>
                clear c s1 s2 z1 z2 l1 l2
                obtain ⟨z, z1, z2, rfl, rfl⟩ := hrel
                obtain ⟨s1, s2⟩ := Cal.start_bd2 z (by omega) (by omega)
                obtain ⟨l1, l2⟩ := Cal.lp_01 (z - 1)
                by_cases c : y < z
                · have HS := Lib.hid (Cal.start_pred z)
                  go_wp2_with (go_at_call 117; (with_reducible refine (whole_any _ _).mono ?_); rintro e w' ⟨rfl, rfl⟩)
                  all_goals go_round
                  case rel => exact ⟨z - 1, by omega, by omega, rfl, by rw [HS.out]⟩
                  case measure => simp [intOf]; omega
                · obtain rfl : z = y := by omega
                  go_wp2
                  go_returns
                  exact ⟨rfl, rfl⟩

set_option maxHeartbeats 1000000 in
theorem rdays_valid (y m d : Int) (w : World) (h : Cal.Valid y m d) :
    Calls Tryd.prog 86 #[.int .i64 y, .int .i64 m, .int .i64 d] w fun e w' => e = .returned (.tuple #[.int .i64 (Cal.num y m d), .int .i64 0]) ∧ w = w' := by
  obtain ⟨m1, m2⟩ := h.month
  obtain ⟨y1, y2, d1, d2⟩ := h
  obtain ⟨s1, s2⟩ := Cal.start_bd y y1 (by omega)
  have H1 := Lib.hid (Cal.bef_one y)
  have R := Lib.hid (show Cal.start y + Cal.bef y m + d - 1 = Cal.num y m d from rfl)
  obtain ⟨l1, l2⟩ := Cal.len_bd y m m1 m2
  go_enter Tryd.func86, Tryd.ntmps86
  go_wp2_with (first
    | (go_at_call 108; (with_reducible refine (rlength_any _ _ _).mono ?_); rintro e w' ⟨rfl, rfl⟩)
    | (go_at_call 109; (with_reducible refine (begin_any _ _ (by omega) (by omega)).mono ?_); rintro e w' ⟨rfl, rfl⟩))
  go_loop [8, 9] (fun a b => ∃ j : Int, 1 ≤ j ∧ j ≤ m ∧ b = .int .i64 j ∧ a = .int .i64 (Cal.start y + Cal.bef y j)) (fun _ b => (m - intOf b).toNat)
  case atStart => exact ⟨1, by omega, by omega, rfl, by rw [H1.out, Int.add_zero]⟩
  case round =>
    obtain ⟨j, j1, j2, rfl, rfl⟩ := hrel
    obtain ⟨b1, b2⟩ := Cal.bef_bd y j (by omega) (by omega)
    obtain ⟨l3, l4⟩ := Cal.len_bd y j (by omega) (by omega)
    by_cases c : j < m
    · have HS := Lib.hid (show Cal.start y + Cal.bef y j + Cal.len y j = Cal.start y + Cal.bef y (j + 1) by rw [Cal.len_is y j (by omega) (by omega)]; omega)
      go_wp2_with (go_at_call 108; (with_reducible refine (rlength_any _ _ _).mono ?_); rintro e w' ⟨rfl, rfl⟩)
      all_goals go_round
      case rel => exact ⟨j + 1, by omega, by omega, rfl, by rw [HS.out]⟩
      case measure => simp [intOf]; omega
    · obtain rfl : j = m := by omega
      go_wp2
      go_returns
      exact ⟨ret_int2 R.out rfl, rfl⟩
end Go.Proofs.YtacpcokmgahjaaaDoor
