/- The walk of the law SafeRests: for every two numbers of 64 bits it answers true. -/
import Derived.Test.YtplbdfdpcgmcjaaFn6
namespace Go.Proofs.Ytplbdfdpcgmcjaa
set_option linter.unusedVariables false
open Go.ChangeShapes Go.WideShapes Go.ChangeAt Go.RowKit

theorem fl_facts (a b : Int) (h0 : b ≠ 0) : a.fdiv b * b + a.fmod b = a ∧ ((0 < b ∧ 0 ≤ a.fmod b ∧ a.fmod b < b) ∨ (b < 0 ∧ b < a.fmod b ∧ a.fmod b ≤ 0)) := by
  refine ⟨by rw [Int.mul_comm]; exact Int.mul_fdiv_add_fmod a b, ?_⟩
  by_cases h : 0 < b
  · exact .inl ⟨h, Int.fmod_nonneg_of_pos _ h, Int.fmod_lt_of_pos _ h⟩
  · have hb : 0 < -b := by omega
    have e1 := Int.mul_fdiv_add_fmod a b
    have e2 := Int.mul_fdiv_add_fmod (-a) (-b)
    rw [Int.neg_fdiv_neg] at e2
    have h1 := Int.fmod_nonneg_of_pos (-a) hb
    have h2 := Int.fmod_lt_of_pos (-a) hb
    rw [Int.neg_mul] at e2
    exact .inr ⟨by omega, by omega, by omega⟩

theorem fl_range {a b q r : Int} (ha1 : -9223372036854775808 ≤ a) (ha2 : a ≤ 9223372036854775807) (hno : ¬ (a = -9223372036854775808 ∧ b = -1))
    (h : q * b + r = a) (hr : (0 < b ∧ 0 ≤ r ∧ r < b) ∨ (b < 0 ∧ b < r ∧ r ≤ 0)) : -9223372036854775808 ≤ q ∧ q ≤ 9223372036854775807 := by
  rcases hr with ⟨hb, h1, h2⟩ | ⟨hb, h1, h2⟩
  · refine ⟨?_, ?_⟩
    · by_cases c : -9223372036854775808 ≤ q
      · exact c
      · have := Int.mul_le_mul_of_nonneg_right (show q ≤ -9223372036854775809 by omega) (show 0 ≤ b by omega)
        omega
    · by_cases c : q ≤ 9223372036854775807
      · exact c
      · have := Int.mul_le_mul_of_nonneg_right (show 9223372036854775808 ≤ q by omega) (show 0 ≤ b by omega)
        omega
  · have e : q * b = -(q * -b) := by rw [Int.mul_neg]; omega
    refine ⟨?_, ?_⟩
    · by_cases c : -9223372036854775808 ≤ q
      · exact c
      · have := Int.mul_le_mul_of_nonneg_right (show q ≤ -9223372036854775809 by omega) (show 0 ≤ -b by omega)
        omega
    · by_cases c : q ≤ 9223372036854775807
      · exact c
      · have := Int.mul_le_mul_of_nonneg_right (show 9223372036854775808 ≤ q by omega) (show 0 ≤ -b by omega)
        omega

set_option maxRecDepth 100000 in
set_option maxHeartbeats 2000000 in
theorem rests_walk (a b : Int) (w : World) (ha1 : -9223372036854775808 ≤ a) (ha2 : a ≤ 9223372036854775807) (hb1 : -9223372036854775808 ≤ b) (hb2 : b ≤ 9223372036854775807) :
    Calls Try.prog 5 #[.int .i64 a, .int .i64 b] w fun e w' => e = .returned (.bool true) ∧ Below w.heap.size w w' := by
  by_cases h0 : b = 0
  · subst h0
    go_enter Try.func5, Try.ntmps5
    go_wp2_with (first | (go_at_call 15; (with_reducible refine (floor_zero _ _).mono ?_); rintro e w' ⟨rfl, rfl⟩) | (go_at_call 21; (with_reducible refine (awake_any _).mono ?_); rintro e w' ⟨rfl, hbw⟩))
    go_returns
    exact ⟨rfl, by assumption⟩
  · by_cases hov : a = -9223372036854775808 ∧ b = -1
    · obtain ⟨rfl, rfl⟩ := hov
      go_enter Try.func5, Try.ntmps5
      go_wp2_with (first | (go_at_call 15; (with_reducible refine (floor_over _).mono ?_); rintro e w' ⟨rfl, rfl⟩) | (go_at_call 21; (with_reducible refine (awake_any _).mono ?_); rintro e w' ⟨rfl, hbw⟩))
      go_returns
      exact ⟨rfl, by assumption⟩
    · have F := Lib.hid (fun w => floor_ok a b w ha1 ha2 hb1 hb2 h0 hov)
      obtain ⟨hqr, hr⟩ := fl_facts a b h0
      obtain ⟨hq1, hq2⟩ := fl_range ha1 ha2 hov hqr hr
      generalize a.fdiv b = q at *
      generalize a.fmod b = r at *
      have hr1 : -9223372036854775808 ≤ r := by omega
      have hr2 : r ≤ 9223372036854775807 := by omega
      by_cases hn : -9223372036854775808 ≤ q * b ∧ q * b ≤ 9223372036854775807
      · have M := Lib.hid (fun w => mul_ok q b w hq1 hq2 hb1 hb2 hn.1 hn.2)
        obtain ⟨hn1, hn2⟩ := hn
        have A : ∀ w, Calls Try.prog 9 #[.int .i64 (q * b), .int .i64 r] w fun e w' => e = .returned (.tuple #[.int .i64 a, .int .i64 0]) ∧ w = w' := by
          intro w
          have h := add_ok (q * b) r w hn1 hn2 hr1 hr2 (by omega) (by omega)
          rw [hqr] at h
          exact h
        have A := Lib.hid A
        clear hqr hov
        by_cases r0 : r = 0
        · subst r0
          go_enter Try.func5, Try.ntmps5
          go_wp2_with (first | (go_at_call 15; (with_reducible refine (F.out _).mono ?_); rintro e w' ⟨rfl, k, rfl⟩) | (go_at_call 13; (with_reducible refine (M.out _).mono ?_); rintro e w' ⟨rfl, rfl⟩) | (go_at_call 9; (with_reducible refine (A.out _).mono ?_); rintro e w' ⟨rfl, rfl⟩) | (go_at_call 21; (with_reducible refine (awake_any _).mono ?_); rintro e w' ⟨rfl, hbw⟩))
          go_returns
          exact ⟨rfl, (below_drewN' (Below.refl _ _) _).trans (by assumption)⟩
        · have d0 : (r == 0) = false := by simpa using r0
          rcases hr with ⟨hb, h1, h2⟩ | ⟨hb, h1, h2⟩
          · have h1' : 0 < r := by omega
            clear h1 r0
            go_enter Try.func5, Try.ntmps5
            go_wp2_with (first | (go_at_call 15; (with_reducible refine (F.out _).mono ?_); rintro e w' ⟨rfl, k, rfl⟩) | (go_at_call 13; (with_reducible refine (M.out _).mono ?_); rintro e w' ⟨rfl, rfl⟩) | (go_at_call 9; (with_reducible refine (A.out _).mono ?_); rintro e w' ⟨rfl, rfl⟩) | (go_at_call 21; (with_reducible refine (awake_any _).mono ?_); rintro e w' ⟨rfl, hbw⟩))
            go_returns
            exact ⟨rfl, (below_drewN' (Below.refl _ _) _).trans (by assumption)⟩
          · have h1' : r < 0 := by omega
            clear h2 r0
            go_enter Try.func5, Try.ntmps5
            go_wp2_with (first | (go_at_call 15; (with_reducible refine (F.out _).mono ?_); rintro e w' ⟨rfl, k, rfl⟩) | (go_at_call 13; (with_reducible refine (M.out _).mono ?_); rintro e w' ⟨rfl, rfl⟩) | (go_at_call 9; (with_reducible refine (A.out _).mono ?_); rintro e w' ⟨rfl, rfl⟩) | (go_at_call 21; (with_reducible refine (awake_any _).mono ?_); rintro e w' ⟨rfl, hbw⟩))
            go_returns
            exact ⟨rfl, (below_drewN' (Below.refl _ _) _).trans (by assumption)⟩
      · have M := Lib.hid (fun w => mul_over q b w hq1 hq2 hb1 hb2 (by omega))
        have A : ∀ w, Calls Try.prog 9 #[.int .i64 0, .int .i64 r] w fun e w' => e = .returned (.tuple #[.int .i64 r, .int .i64 0]) ∧ w = w' := by
          intro w
          have h := add_ok 0 r w (by omega) (by omega) hr1 hr2 (by omega) (by omega)
          rw [Int.zero_add] at h
          exact h
        have A := Lib.hid A
        have d0 : (r != 0) = true := by simp; omega
        have d2 : (b != 0) = true := by simpa using h0
        have d1 : (wrap64 (wrap64 (q * b) + r) == a) = true := by simp; unfold wrap64; omega
        have hn' := Lib.hid hn
        have hqr' := Lib.hid hqr
        clear hqr hn hov hr
        go_enter Try.func5, Try.ntmps5
        go_wp2_with (first | (go_at_call 15; (with_reducible refine (F.out _).mono ?_); rintro e w' ⟨rfl, k, rfl⟩) | (go_at_call 13; (with_reducible refine (M.out _).mono ?_); rintro e w' ⟨rfl, rfl⟩) | (go_at_call 9; (with_reducible refine (A.out _).mono ?_); rintro e w' ⟨rfl, rfl⟩) | (go_at_call 21; (with_reducible refine (awake_any _).mono ?_); rintro e w' ⟨rfl, hbw⟩))
        go_returns
        exact ⟨rfl, (below_drewN' (Below.refl _ _) _).trans (by assumption)⟩
end Go.Proofs.Ytplbdfdpcgmcjaa
