/- The walk of the law SafeBack: for every two numbers of 64 bits it answers true. -/
import Derived.Test.YtplbdfdpcgmcjaaFn6
namespace Go.Proofs.Ytplbdfdpcgmcjaa
set_option linter.unusedVariables false
open Go.ChangeShapes Go.WideShapes Go.ChangeAt Go.RowKit

/-- What Add tells of two numbers: their sum, or that there is none, and of which signs they are then. -/
theorem back_add (a b : Int) (ha1 : -9223372036854775808 ≤ a) (ha2 : a ≤ 9223372036854775807) (hb1 : -9223372036854775808 ≤ b) (hb2 : b ≤ 9223372036854775807) :
    (∃ x : Int, Hid (∀ w, Calls Try.prog 9 #[.int .i64 a, .int .i64 b] w fun e w' => e = .returned (.tuple #[.int .i64 x, .int .i64 0]) ∧ w = w') ∧
      Hid (∀ w, Calls Try.prog 9 #[.int .i64 b, .int .i64 a] w fun e w' => e = .returned (.tuple #[.int .i64 x, .int .i64 0]) ∧ w = w') ∧
      Hid (∀ w, Calls Try.prog 11 #[.int .i64 x, .int .i64 b] w fun e w' => e = .returned (.tuple #[.int .i64 a, .int .i64 0]) ∧ w = w')) ∨
    (Hid (∀ w, Calls Try.prog 9 #[.int .i64 a, .int .i64 b] w fun e w' => e = .returned (.tuple #[.int .i64 0, .int .i64 10]) ∧ w = w') ∧
      Hid (∀ w, Calls Try.prog 9 #[.int .i64 b, .int .i64 a] w fun e w' => e = .returned (.tuple #[.int .i64 0, .int .i64 10]) ∧ w = w') ∧ ((0 < a ∧ 0 < b) ∨ (a < 0 ∧ b < 0))) := by
  by_cases hs : -9223372036854775808 ≤ a + b ∧ a + b ≤ 9223372036854775807
  · left
    refine ⟨a + b, Lib.hid fun w => add_ok a b w ha1 ha2 hb1 hb2 hs.1 hs.2, Lib.hid fun w => ?_, Lib.hid fun w => ?_⟩
    · have h := add_ok b a w hb1 hb2 ha1 ha2 (by omega) (by omega)
      rw [Int.add_comm] at h
      exact h
    · have h := sub_ok (a + b) b w hs.1 hs.2 hb1 hb2 (by omega) (by omega)
      rw [Int.add_sub_cancel] at h
      exact h
  · right
    exact ⟨Lib.hid fun w => add_over a b w ha1 ha2 hb1 hb2 (by omega), Lib.hid fun w => add_over b a w hb1 hb2 ha1 ha2 (by omega), by omega⟩

theorem back_mul (a b : Int) (ha1 : -9223372036854775808 ≤ a) (ha2 : a ≤ 9223372036854775807) (hb1 : -9223372036854775808 ≤ b) (hb2 : b ≤ 9223372036854775807) :
    (∃ z : Int, Hid (∀ w, Calls Try.prog 13 #[.int .i64 a, .int .i64 b] w fun e w' => e = .returned (.tuple #[.int .i64 z, .int .i64 0]) ∧ w = w') ∧
      Hid (∀ w, Calls Try.prog 13 #[.int .i64 b, .int .i64 a] w fun e w' => e = .returned (.tuple #[.int .i64 z, .int .i64 0]) ∧ w = w') ∧
      Hid (b ≠ 0 → ¬ (z = -9223372036854775808 ∧ b = -1) → ∀ w, Calls Try.prog 15 #[.int .i64 z, .int .i64 b] w fun e w' => e = .returned (.tuple #[.int .i64 a, .int .i64 0, .int .i64 0]) ∧ ∃ n, w' = w.drewN n)) ∨
    (Hid (∀ w, Calls Try.prog 13 #[.int .i64 a, .int .i64 b] w fun e w' => e = .returned (.tuple #[.int .i64 0, .int .i64 10]) ∧ w = w') ∧
      Hid (∀ w, Calls Try.prog 13 #[.int .i64 b, .int .i64 a] w fun e w' => e = .returned (.tuple #[.int .i64 0, .int .i64 10]) ∧ w = w')) := by
  have hz : a * b = b * a := Int.mul_comm a b
  by_cases hm : -9223372036854775808 ≤ a * b ∧ a * b ≤ 9223372036854775807
  · left
    refine ⟨a * b, Lib.hid fun w => mul_ok a b w ha1 ha2 hb1 hb2 hm.1 hm.2, Lib.hid fun w => ?_, Lib.hid ?_⟩
    · have h := mul_ok b a w hb1 hb2 ha1 ha2 (by omega) (by omega)
      rw [← hz] at h
      exact h
    · intro h0 hno w
      have h := floor_ok (a * b) b w hm.1 hm.2 hb1 hb2 h0 hno
      have u := fl_unique (a := a * b) (b := b) (q := a) (r := 0) (by omega) (by omega)
      rw [← u.1, ← u.2] at h
      exact h
  · right
    exact ⟨Lib.hid fun w => mul_over a b w ha1 ha2 hb1 hb2 (by omega), Lib.hid fun w => mul_over b a w hb1 hb2 ha1 ha2 (by omega)⟩

set_option maxRecDepth 100000 in
set_option maxHeartbeats 8000000 in
theorem back_walk (a b : Int) (w : World) (ha1 : -9223372036854775808 ≤ a) (ha2 : a ≤ 9223372036854775807) (hb1 : -9223372036854775808 ≤ b) (hb2 : b ≤ 9223372036854775807) :
    Calls Try.prog 6 #[.int .i64 a, .int .i64 b] w fun e w' => e = .returned (.bool true) ∧ Below w.heap.size w w' := by
  rcases back_add a b ha1 ha2 hb1 hb2 with ⟨x, A1, A2, S⟩ | ⟨A1, A2, hsg⟩
  · rcases back_mul a b ha1 ha2 hb1 hb2 with ⟨z, M1, M2, FL⟩ | ⟨M1, M2⟩
    · by_cases b0 : b = 0
      · have d0 : (b != 0) = false := by simpa using b0
        clear b0
        go_enter Try.func6, Try.ntmps6
        go_wp2_with (first
                  | (go_at_call 9; (with_reducible refine (A1.out _).mono ?_); rintro e w' ⟨rfl, rfl⟩)
                  | (go_at_call 9; (with_reducible refine (A2.out _).mono ?_); rintro e w' ⟨rfl, rfl⟩)
                  | (go_at_call 13; (with_reducible refine (M1.out _).mono ?_); rintro e w' ⟨rfl, rfl⟩)
                  | (go_at_call 13; (with_reducible refine (M2.out _).mono ?_); rintro e w' ⟨rfl, rfl⟩)
                  | (go_at_call 11; (with_reducible refine (S.out _).mono ?_); rintro e w' ⟨rfl, rfl⟩)
                  | (go_at_call 21; (with_reducible refine (awake_any _).mono ?_); rintro e w' ⟨rfl, hbw⟩))
        go_returns
        exact ⟨rfl, by assumption⟩
      · have d0 : (b != 0) = true := by simpa using b0
        by_cases c : z = -9223372036854775808 ∧ b = -1
        · obtain ⟨rfl, rfl⟩ := c
          clear d0 b0
          go_enter Try.func6, Try.ntmps6
          go_wp2_with (first
                    | (go_at_call 9; (with_reducible refine (A1.out _).mono ?_); rintro e w' ⟨rfl, rfl⟩)
                    | (go_at_call 9; (with_reducible refine (A2.out _).mono ?_); rintro e w' ⟨rfl, rfl⟩)
                    | (go_at_call 13; (with_reducible refine (M1.out _).mono ?_); rintro e w' ⟨rfl, rfl⟩)
                    | (go_at_call 13; (with_reducible refine (M2.out _).mono ?_); rintro e w' ⟨rfl, rfl⟩)
                    | (go_at_call 11; (with_reducible refine (S.out _).mono ?_); rintro e w' ⟨rfl, rfl⟩)
                    | (go_at_call 21; (with_reducible refine (awake_any _).mono ?_); rintro e w' ⟨rfl, hbw⟩))
          go_returns
          exact ⟨rfl, by assumption⟩
        · have F := Lib.hid (FL.out b0 c)
          by_cases c1 : b = -1
          · have d1 : (b != -1) = false := by simpa using c1
            have d2 : (z != -9223372036854775808) = true := by simp; omega
            clear c c1 b0
            go_enter Try.func6, Try.ntmps6
            go_wp2_with (first
                      | (go_at_call 9; (with_reducible refine (A1.out _).mono ?_); rintro e w' ⟨rfl, rfl⟩)
                      | (go_at_call 9; (with_reducible refine (A2.out _).mono ?_); rintro e w' ⟨rfl, rfl⟩)
                      | (go_at_call 13; (with_reducible refine (M1.out _).mono ?_); rintro e w' ⟨rfl, rfl⟩)
                      | (go_at_call 13; (with_reducible refine (M2.out _).mono ?_); rintro e w' ⟨rfl, rfl⟩)
                      | (go_at_call 11; (with_reducible refine (S.out _).mono ?_); rintro e w' ⟨rfl, rfl⟩)
                      | (go_at_call 15; (with_reducible refine (F.out _).mono ?_); rintro e w' ⟨rfl, n, rfl⟩)
                      | (go_at_call 21; (with_reducible refine (awake_any _).mono ?_); rintro e w' ⟨rfl, hbw⟩))
            go_returns
            exact ⟨rfl, (below_drewN' (Below.refl _ _) _).trans (by assumption)⟩
          · have d1 : (b != -1) = true := by simpa using c1
            clear c c1 b0
            go_enter Try.func6, Try.ntmps6
            go_wp2_with (first
                      | (go_at_call 9; (with_reducible refine (A1.out _).mono ?_); rintro e w' ⟨rfl, rfl⟩)
                      | (go_at_call 9; (with_reducible refine (A2.out _).mono ?_); rintro e w' ⟨rfl, rfl⟩)
                      | (go_at_call 13; (with_reducible refine (M1.out _).mono ?_); rintro e w' ⟨rfl, rfl⟩)
                      | (go_at_call 13; (with_reducible refine (M2.out _).mono ?_); rintro e w' ⟨rfl, rfl⟩)
                      | (go_at_call 11; (with_reducible refine (S.out _).mono ?_); rintro e w' ⟨rfl, rfl⟩)
                      | (go_at_call 15; (with_reducible refine (F.out _).mono ?_); rintro e w' ⟨rfl, n, rfl⟩)
                      | (go_at_call 21; (with_reducible refine (awake_any _).mono ?_); rintro e w' ⟨rfl, hbw⟩))
            go_returns
            exact ⟨rfl, (below_drewN' (Below.refl _ _) _).trans (by assumption)⟩
    · go_enter Try.func6, Try.ntmps6
      go_wp2_with (first
                | (go_at_call 9; (with_reducible refine (A1.out _).mono ?_); rintro e w' ⟨rfl, rfl⟩)
                | (go_at_call 9; (with_reducible refine (A2.out _).mono ?_); rintro e w' ⟨rfl, rfl⟩)
                | (go_at_call 13; (with_reducible refine (M1.out _).mono ?_); rintro e w' ⟨rfl, rfl⟩)
                | (go_at_call 13; (with_reducible refine (M2.out _).mono ?_); rintro e w' ⟨rfl, rfl⟩)
                | (go_at_call 11; (with_reducible refine (S.out _).mono ?_); rintro e w' ⟨rfl, rfl⟩)
                | (go_at_call 21; (with_reducible refine (awake_any _).mono ?_); rintro e w' ⟨rfl, hbw⟩))
      go_returns
      exact ⟨rfl, by assumption⟩
  · rcases hsg with ⟨g1, g2⟩ | ⟨g1, g2⟩
    · have e1 : decide (0 < a) = true := by simp; omega
      have e2 : decide (0 < b) = true := by simp; omega
      have e3 : (a == 0) = false := by simp; omega
      have e4 : (b == 0) = false := by simp; omega
      rcases back_mul a b ha1 ha2 hb1 hb2 with ⟨z, M1, M2, FL⟩ | ⟨M1, M2⟩
      · by_cases b0 : b = 0
        · have d0 : (b != 0) = false := by simpa using b0
          clear b0
          go_enter Try.func6, Try.ntmps6
          go_wp2_with (first
                    | (go_at_call 9; (with_reducible refine (A1.out _).mono ?_); rintro e w' ⟨rfl, rfl⟩)
                    | (go_at_call 9; (with_reducible refine (A2.out _).mono ?_); rintro e w' ⟨rfl, rfl⟩)
                    | (go_at_call 13; (with_reducible refine (M1.out _).mono ?_); rintro e w' ⟨rfl, rfl⟩)
                    | (go_at_call 13; (with_reducible refine (M2.out _).mono ?_); rintro e w' ⟨rfl, rfl⟩)
                    | (go_at_call 21; (with_reducible refine (awake_any _).mono ?_); rintro e w' ⟨rfl, hbw⟩))
          go_returns
          exact ⟨rfl, by assumption⟩
        · have d0 : (b != 0) = true := by simpa using b0
          by_cases c : z = -9223372036854775808 ∧ b = -1
          · exfalso; omega
          · have F := Lib.hid (FL.out b0 c)
            by_cases c1 : b = -1
            · have d1 : (b != -1) = false := by simpa using c1
              have d2 : (z != -9223372036854775808) = true := by simp; omega
              clear c c1 b0
              go_enter Try.func6, Try.ntmps6
              go_wp2_with (first
                        | (go_at_call 9; (with_reducible refine (A1.out _).mono ?_); rintro e w' ⟨rfl, rfl⟩)
                        | (go_at_call 9; (with_reducible refine (A2.out _).mono ?_); rintro e w' ⟨rfl, rfl⟩)
                        | (go_at_call 13; (with_reducible refine (M1.out _).mono ?_); rintro e w' ⟨rfl, rfl⟩)
                        | (go_at_call 13; (with_reducible refine (M2.out _).mono ?_); rintro e w' ⟨rfl, rfl⟩)
                        | (go_at_call 15; (with_reducible refine (F.out _).mono ?_); rintro e w' ⟨rfl, n, rfl⟩)
                        | (go_at_call 21; (with_reducible refine (awake_any _).mono ?_); rintro e w' ⟨rfl, hbw⟩))
              go_returns
              exact ⟨rfl, (below_drewN' (Below.refl _ _) _).trans (by assumption)⟩
            · have d1 : (b != -1) = true := by simpa using c1
              clear c c1 b0
              go_enter Try.func6, Try.ntmps6
              go_wp2_with (first
                        | (go_at_call 9; (with_reducible refine (A1.out _).mono ?_); rintro e w' ⟨rfl, rfl⟩)
                        | (go_at_call 9; (with_reducible refine (A2.out _).mono ?_); rintro e w' ⟨rfl, rfl⟩)
                        | (go_at_call 13; (with_reducible refine (M1.out _).mono ?_); rintro e w' ⟨rfl, rfl⟩)
                        | (go_at_call 13; (with_reducible refine (M2.out _).mono ?_); rintro e w' ⟨rfl, rfl⟩)
                        | (go_at_call 15; (with_reducible refine (F.out _).mono ?_); rintro e w' ⟨rfl, n, rfl⟩)
                        | (go_at_call 21; (with_reducible refine (awake_any _).mono ?_); rintro e w' ⟨rfl, hbw⟩))
              go_returns
              exact ⟨rfl, (below_drewN' (Below.refl _ _) _).trans (by assumption)⟩
      · go_enter Try.func6, Try.ntmps6
        go_wp2_with (first
                  | (go_at_call 9; (with_reducible refine (A1.out _).mono ?_); rintro e w' ⟨rfl, rfl⟩)
                  | (go_at_call 9; (with_reducible refine (A2.out _).mono ?_); rintro e w' ⟨rfl, rfl⟩)
                  | (go_at_call 13; (with_reducible refine (M1.out _).mono ?_); rintro e w' ⟨rfl, rfl⟩)
                  | (go_at_call 13; (with_reducible refine (M2.out _).mono ?_); rintro e w' ⟨rfl, rfl⟩)
                  | (go_at_call 21; (with_reducible refine (awake_any _).mono ?_); rintro e w' ⟨rfl, hbw⟩))
        go_returns
        exact ⟨rfl, by assumption⟩
    · have e1 : decide (0 < a) = false := by simp; omega
      have e2 : decide (0 < b) = false := by simp; omega
      have e3 : (a == 0) = false := by simp; omega
      have e4 : (b == 0) = false := by simp; omega
      rcases back_mul a b ha1 ha2 hb1 hb2 with ⟨z, M1, M2, FL⟩ | ⟨M1, M2⟩
      · by_cases b0 : b = 0
        · have d0 : (b != 0) = false := by simpa using b0
          clear b0
          go_enter Try.func6, Try.ntmps6
          go_wp2_with (first
                    | (go_at_call 9; (with_reducible refine (A1.out _).mono ?_); rintro e w' ⟨rfl, rfl⟩)
                    | (go_at_call 9; (with_reducible refine (A2.out _).mono ?_); rintro e w' ⟨rfl, rfl⟩)
                    | (go_at_call 13; (with_reducible refine (M1.out _).mono ?_); rintro e w' ⟨rfl, rfl⟩)
                    | (go_at_call 13; (with_reducible refine (M2.out _).mono ?_); rintro e w' ⟨rfl, rfl⟩)
                    | (go_at_call 21; (with_reducible refine (awake_any _).mono ?_); rintro e w' ⟨rfl, hbw⟩))
          go_returns
          exact ⟨rfl, by assumption⟩
        · have d0 : (b != 0) = true := by simpa using b0
          by_cases c : z = -9223372036854775808 ∧ b = -1
          · obtain ⟨rfl, rfl⟩ := c
            clear d0 b0
            go_enter Try.func6, Try.ntmps6
            go_wp2_with (first
                      | (go_at_call 9; (with_reducible refine (A1.out _).mono ?_); rintro e w' ⟨rfl, rfl⟩)
                      | (go_at_call 9; (with_reducible refine (A2.out _).mono ?_); rintro e w' ⟨rfl, rfl⟩)
                      | (go_at_call 13; (with_reducible refine (M1.out _).mono ?_); rintro e w' ⟨rfl, rfl⟩)
                      | (go_at_call 13; (with_reducible refine (M2.out _).mono ?_); rintro e w' ⟨rfl, rfl⟩)
                      | (go_at_call 21; (with_reducible refine (awake_any _).mono ?_); rintro e w' ⟨rfl, hbw⟩))
            go_returns
            exact ⟨rfl, by assumption⟩
          · have F := Lib.hid (FL.out b0 c)
            by_cases c1 : b = -1
            · have d1 : (b != -1) = false := by simpa using c1
              have d2 : (z != -9223372036854775808) = true := by simp; omega
              clear c c1 b0
              go_enter Try.func6, Try.ntmps6
              go_wp2_with (first
                        | (go_at_call 9; (with_reducible refine (A1.out _).mono ?_); rintro e w' ⟨rfl, rfl⟩)
                        | (go_at_call 9; (with_reducible refine (A2.out _).mono ?_); rintro e w' ⟨rfl, rfl⟩)
                        | (go_at_call 13; (with_reducible refine (M1.out _).mono ?_); rintro e w' ⟨rfl, rfl⟩)
                        | (go_at_call 13; (with_reducible refine (M2.out _).mono ?_); rintro e w' ⟨rfl, rfl⟩)
                        | (go_at_call 15; (with_reducible refine (F.out _).mono ?_); rintro e w' ⟨rfl, n, rfl⟩)
                        | (go_at_call 21; (with_reducible refine (awake_any _).mono ?_); rintro e w' ⟨rfl, hbw⟩))
              go_returns
              exact ⟨rfl, (below_drewN' (Below.refl _ _) _).trans (by assumption)⟩
            · have d1 : (b != -1) = true := by simpa using c1
              clear c c1 b0
              go_enter Try.func6, Try.ntmps6
              go_wp2_with (first
                        | (go_at_call 9; (with_reducible refine (A1.out _).mono ?_); rintro e w' ⟨rfl, rfl⟩)
                        | (go_at_call 9; (with_reducible refine (A2.out _).mono ?_); rintro e w' ⟨rfl, rfl⟩)
                        | (go_at_call 13; (with_reducible refine (M1.out _).mono ?_); rintro e w' ⟨rfl, rfl⟩)
                        | (go_at_call 13; (with_reducible refine (M2.out _).mono ?_); rintro e w' ⟨rfl, rfl⟩)
                        | (go_at_call 15; (with_reducible refine (F.out _).mono ?_); rintro e w' ⟨rfl, n, rfl⟩)
                        | (go_at_call 21; (with_reducible refine (awake_any _).mono ?_); rintro e w' ⟨rfl, hbw⟩))
              go_returns
              exact ⟨rfl, (below_drewN' (Below.refl _ _) _).trans (by assumption)⟩
      · go_enter Try.func6, Try.ntmps6
        go_wp2_with (first
                  | (go_at_call 9; (with_reducible refine (A1.out _).mono ?_); rintro e w' ⟨rfl, rfl⟩)
                  | (go_at_call 9; (with_reducible refine (A2.out _).mono ?_); rintro e w' ⟨rfl, rfl⟩)
                  | (go_at_call 13; (with_reducible refine (M1.out _).mono ?_); rintro e w' ⟨rfl, rfl⟩)
                  | (go_at_call 13; (with_reducible refine (M2.out _).mono ?_); rintro e w' ⟨rfl, rfl⟩)
                  | (go_at_call 21; (with_reducible refine (awake_any _).mono ?_); rintro e w' ⟨rfl, hbw⟩))
        go_returns
        exact ⟨rfl, by assumption⟩
end Go.Proofs.Ytplbdfdpcgmcjaa
