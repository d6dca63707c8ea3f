/- The walk of the law CivilBack. -/
import Derived.Test.YtplbdfdpcgmcjacDoorLaw
namespace Go.Proofs.YtplbdfdpcgmcjacDoor
set_option linter.unusedVariables false
open Go.ChangeShapes Go.WideShapes Go.ChangeAt Go.RowKit

/-- The second part's ways: a date, or what makes it none. -/
def PartTwo (Y M D n : Int) : Prop :=
  (-9999 ≤ Y ∧ Y ≤ 9999 ∧ 1 ≤ D ∧ D ≤ Cal.len Y M ∧ Hid (∀ w, Tab w → Calls Tryd.prog 8 #[.int .i64 Y, .int .i64 M, .int .i64 D] w fun e w' => e = .returned (.tuple #[.int .i64 n, .int .i64 0]) ∧ w = w') ∧
    Hid (∀ w, Tab w → Calls Tryd.prog 10 #[.int .i64 n] w fun e w' => e = .returned (.tuple #[.int .i64 Y, .int .i64 M, .int .i64 D, .int .i64 0]) ∧ w = w')) ∨
  (Hid (∀ w, Tab w → Calls Tryd.prog 8 #[.int .i64 Y, .int .i64 M, .int .i64 D] w fun e w' => e = .returned (.tuple #[.int .i64 0, .int .i64 30]) ∧ w = w') ∧
    (Y < -9999 ∨ (-9999 ≤ Y ∧ 9999 < Y) ∨ (-9999 ≤ Y ∧ Y ≤ 9999 ∧ D < 1) ∨ (-9999 ≤ Y ∧ Y ≤ 9999 ∧ 1 ≤ D ∧ decide (D ≤ Cal.len Y M) = false)))
theorem partTwo (Y M D : Int) : ∃ n, PartTwo Y M D n := by
  by_cases v : Cal.Valid Y M D
  · exact ⟨_, .inl ⟨v.y1, v.y2, v.d1, v.d2, Lib.hid fun w hT => days_valid Y M D w hT v, Lib.hid fun w hT => date_num Y M D w hT v⟩⟩
  · refine ⟨0, .inr ⟨Lib.hid fun w hT => days_not Y M D w hT v, ?_⟩⟩
    have : ¬ (-9999 ≤ Y ∧ Y ≤ 9999 ∧ 1 ≤ D ∧ D ≤ Cal.len Y M) := fun ⟨a, b, c, e⟩ => v ⟨a, b, c, e⟩
    rw [decide_eq_false_iff_not]
    omega

set_option maxRecDepth 100000 in
set_option maxHeartbeats 4000000 in
theorem back_none (n y m d l Y M D k : Int) (w : World) (HT : Hid (Tab w)) (A : Hid (∀ w, Calls Tryd.prog 10 #[.int .i64 n] w fun e w' => e = .returned (.tuple #[.int .i64 0, .int .i64 0, .int .i64 0, .int .i64 30]) ∧ w = w')) (T : PartTwo Y M D k) :
    Calls Tryd.prog 4 #[.int .i64 n, .int .i64 Y, .int .i64 M, .int .i64 D] w fun e w' => e = .returned (.bool true) ∧ w = w' := by
  rcases T with ⟨t1, t2, t3, t4, P, Q⟩ | ⟨P, T⟩
  · go_enter Tryd.func4, Tryd.ntmps4
    go_wp2_with (first
      | (go_at_call 10; (with_reducible refine (A.out _).mono ?_); rintro e w' ⟨rfl, rfl⟩)
      | (go_at_call 8; (with_reducible refine (P.out _ HT.out).mono ?_); rintro e w' ⟨rfl, rfl⟩)
      | (go_at_call 14; (with_reducible refine (length_any _ _ _ HT.out).mono ?_); rintro e w' ⟨rfl, rfl⟩)
      | (go_at_call 10; (with_reducible refine (Q.out _ HT.out).mono ?_); rintro e w' ⟨rfl, rfl⟩)
      | (go_at_call 18; (with_reducible refine (awake_any _ HT.out).mono ?_); rintro e w' ⟨rfl, rfl⟩))
    go_returns
    exact ⟨rfl, rfl⟩
  · rcases T with t1 | ⟨t1, t2⟩ | ⟨t1, t2, t3⟩ | ⟨t1, t2, t3, t4⟩
    all_goals
      go_enter Tryd.func4, Tryd.ntmps4
      go_wp2_with (first
      | (go_at_call 10; (with_reducible refine (A.out _).mono ?_); rintro e w' ⟨rfl, rfl⟩)
      | (go_at_call 8; (with_reducible refine (P.out _ HT.out).mono ?_); rintro e w' ⟨rfl, rfl⟩)
      | (go_at_call 14; (with_reducible refine (length_any _ _ _ HT.out).mono ?_); rintro e w' ⟨rfl, rfl⟩)
      | (go_at_call 18; (with_reducible refine (awake_any _ HT.out).mono ?_); rintro e w' ⟨rfl, rfl⟩))
      go_returns
      exact ⟨rfl, rfl⟩

set_option maxRecDepth 100000 in
set_option maxHeartbeats 4000000 in
theorem back_day (n y m d l Y M D k : Int) (w : World) (HT : Hid (Tab w)) (A : Hid (∀ w, Tab w → Calls Tryd.prog 10 #[.int .i64 n] w fun e w' => e = .returned (.tuple #[.int .i64 y, .int .i64 m, .int .i64 d, .int .i64 0]) ∧ w = w')) (B : Hid (∀ w, Tab w → Calls Tryd.prog 8 #[.int .i64 y, .int .i64 m, .int .i64 d] w fun e w' => e = .returned (.tuple #[.int .i64 n, .int .i64 0]) ∧ w = w')) (L : Hid (∀ w, Tab w → Calls Tryd.prog 14 #[.int .i64 y, .int .i64 m] w fun e w' => e = .returned (.int .i64 l) ∧ w = w')) (C : Hid (∀ w, Tab w → Calls Tryd.prog 10 #[.int .i64 (n + 1)] w fun e w' => e = .returned (.tuple #[.int .i64 y, .int .i64 m, .int .i64 (d + 1), .int .i64 0]) ∧ w = w')) (n1 : -4371587 ≤ n) (n2 : n < 2932897) (d1 : 1 ≤ d) (d2 : d ≤ 31) (m1 : 1 ≤ m) (m2 : m ≤ 12) (y1 : -9999 ≤ y) (y2 : y ≤ 9999) (c : d < l) (T : PartTwo Y M D k) :
    Calls Tryd.prog 4 #[.int .i64 n, .int .i64 Y, .int .i64 M, .int .i64 D] w fun e w' => e = .returned (.bool true) ∧ w = w' := by
  rcases T with ⟨t1, t2, t3, t4, P, Q⟩ | ⟨P, T⟩
  · go_enter Tryd.func4, Tryd.ntmps4
    go_wp2_with (first
      | (go_at_call 10; (with_reducible refine (A.out _ HT.out).mono ?_); rintro e w' ⟨rfl, rfl⟩)
      | (go_at_call 8; (with_reducible refine (B.out _ HT.out).mono ?_); rintro e w' ⟨rfl, rfl⟩)
      | (go_at_call 10; (with_reducible refine (C.out _ HT.out).mono ?_); rintro e w' ⟨rfl, rfl⟩)
      | (go_at_call 14; (with_reducible refine (L.out _ HT.out).mono ?_); rintro e w' ⟨rfl, rfl⟩)
      | (go_at_call 8; (with_reducible refine (P.out _ HT.out).mono ?_); rintro e w' ⟨rfl, rfl⟩)
      | (go_at_call 14; (with_reducible refine (length_any _ _ _ HT.out).mono ?_); rintro e w' ⟨rfl, rfl⟩)
      | (go_at_call 10; (with_reducible refine (Q.out _ HT.out).mono ?_); rintro e w' ⟨rfl, rfl⟩)
      | (go_at_call 18; (with_reducible refine (awake_any _ HT.out).mono ?_); rintro e w' ⟨rfl, rfl⟩))
    go_returns
    exact ⟨rfl, rfl⟩
  · rcases T with t1 | ⟨t1, t2⟩ | ⟨t1, t2, t3⟩ | ⟨t1, t2, t3, t4⟩
    all_goals
      go_enter Tryd.func4, Tryd.ntmps4
      go_wp2_with (first
      | (go_at_call 10; (with_reducible refine (A.out _ HT.out).mono ?_); rintro e w' ⟨rfl, rfl⟩)
      | (go_at_call 8; (with_reducible refine (B.out _ HT.out).mono ?_); rintro e w' ⟨rfl, rfl⟩)
      | (go_at_call 10; (with_reducible refine (C.out _ HT.out).mono ?_); rintro e w' ⟨rfl, rfl⟩)
      | (go_at_call 14; (with_reducible refine (L.out _ HT.out).mono ?_); rintro e w' ⟨rfl, rfl⟩)
      | (go_at_call 8; (with_reducible refine (P.out _ HT.out).mono ?_); rintro e w' ⟨rfl, rfl⟩)
      | (go_at_call 14; (with_reducible refine (length_any _ _ _ HT.out).mono ?_); rintro e w' ⟨rfl, rfl⟩)
      | (go_at_call 18; (with_reducible refine (awake_any _ HT.out).mono ?_); rintro e w' ⟨rfl, rfl⟩))
      go_returns
      exact ⟨rfl, rfl⟩

set_option maxRecDepth 100000 in
set_option maxHeartbeats 4000000 in
theorem back_month (n y m d l Y M D k : Int) (w : World) (HT : Hid (Tab w)) (A : Hid (∀ w, Tab w → Calls Tryd.prog 10 #[.int .i64 n] w fun e w' => e = .returned (.tuple #[.int .i64 y, .int .i64 m, .int .i64 d, .int .i64 0]) ∧ w = w')) (B : Hid (∀ w, Tab w → Calls Tryd.prog 8 #[.int .i64 y, .int .i64 m, .int .i64 d] w fun e w' => e = .returned (.tuple #[.int .i64 n, .int .i64 0]) ∧ w = w')) (L : Hid (∀ w, Tab w → Calls Tryd.prog 14 #[.int .i64 y, .int .i64 m] w fun e w' => e = .returned (.int .i64 l) ∧ w = w')) (C : Hid (∀ w, Tab w → Calls Tryd.prog 10 #[.int .i64 (n + 1)] w fun e w' => e = .returned (.tuple #[.int .i64 y, .int .i64 (m + 1), .int .i64 1, .int .i64 0]) ∧ w = w')) (n1 : -4371587 ≤ n) (n2 : n < 2932897) (d1 : 1 ≤ d) (d2 : d ≤ 31) (m1 : 1 ≤ m) (m2 : m ≤ 12) (y1 : -9999 ≤ y) (y2 : y ≤ 9999) (c : ¬ d < l) (c' : d ≤ l) (c2 : m < 12) (T : PartTwo Y M D k) :
    Calls Tryd.prog 4 #[.int .i64 n, .int .i64 Y, .int .i64 M, .int .i64 D] w fun e w' => e = .returned (.bool true) ∧ w = w' := by
  rcases T with ⟨t1, t2, t3, t4, P, Q⟩ | ⟨P, T⟩
  · go_enter Tryd.func4, Tryd.ntmps4
    go_wp2_with (first
      | (go_at_call 10; (with_reducible refine (A.out _ HT.out).mono ?_); rintro e w' ⟨rfl, rfl⟩)
      | (go_at_call 8; (with_reducible refine (B.out _ HT.out).mono ?_); rintro e w' ⟨rfl, rfl⟩)
      | (go_at_call 10; (with_reducible refine (C.out _ HT.out).mono ?_); rintro e w' ⟨rfl, rfl⟩)
      | (go_at_call 14; (with_reducible refine (L.out _ HT.out).mono ?_); rintro e w' ⟨rfl, rfl⟩)
      | (go_at_call 8; (with_reducible refine (P.out _ HT.out).mono ?_); rintro e w' ⟨rfl, rfl⟩)
      | (go_at_call 14; (with_reducible refine (length_any _ _ _ HT.out).mono ?_); rintro e w' ⟨rfl, rfl⟩)
      | (go_at_call 10; (with_reducible refine (Q.out _ HT.out).mono ?_); rintro e w' ⟨rfl, rfl⟩)
      | (go_at_call 18; (with_reducible refine (awake_any _ HT.out).mono ?_); rintro e w' ⟨rfl, rfl⟩))
    go_returns
    exact ⟨rfl, rfl⟩
  · rcases T with t1 | ⟨t1, t2⟩ | ⟨t1, t2, t3⟩ | ⟨t1, t2, t3, t4⟩
    all_goals
      go_enter Tryd.func4, Tryd.ntmps4
      go_wp2_with (first
      | (go_at_call 10; (with_reducible refine (A.out _ HT.out).mono ?_); rintro e w' ⟨rfl, rfl⟩)
      | (go_at_call 8; (with_reducible refine (B.out _ HT.out).mono ?_); rintro e w' ⟨rfl, rfl⟩)
      | (go_at_call 10; (with_reducible refine (C.out _ HT.out).mono ?_); rintro e w' ⟨rfl, rfl⟩)
      | (go_at_call 14; (with_reducible refine (L.out _ HT.out).mono ?_); rintro e w' ⟨rfl, rfl⟩)
      | (go_at_call 8; (with_reducible refine (P.out _ HT.out).mono ?_); rintro e w' ⟨rfl, rfl⟩)
      | (go_at_call 14; (with_reducible refine (length_any _ _ _ HT.out).mono ?_); rintro e w' ⟨rfl, rfl⟩)
      | (go_at_call 18; (with_reducible refine (awake_any _ HT.out).mono ?_); rintro e w' ⟨rfl, rfl⟩))
      go_returns
      exact ⟨rfl, rfl⟩

set_option maxRecDepth 100000 in
set_option maxHeartbeats 4000000 in
theorem back_year (n y m d l Y M D k : Int) (w : World) (HT : Hid (Tab w)) (A : Hid (∀ w, Tab w → Calls Tryd.prog 10 #[.int .i64 n] w fun e w' => e = .returned (.tuple #[.int .i64 y, .int .i64 m, .int .i64 d, .int .i64 0]) ∧ w = w')) (B : Hid (∀ w, Tab w → Calls Tryd.prog 8 #[.int .i64 y, .int .i64 m, .int .i64 d] w fun e w' => e = .returned (.tuple #[.int .i64 n, .int .i64 0]) ∧ w = w')) (L : Hid (∀ w, Tab w → Calls Tryd.prog 14 #[.int .i64 y, .int .i64 m] w fun e w' => e = .returned (.int .i64 l) ∧ w = w')) (C : Hid (∀ w, Tab w → Calls Tryd.prog 10 #[.int .i64 (n + 1)] w fun e w' => e = .returned (.tuple #[.int .i64 (y + 1), .int .i64 1, .int .i64 1, .int .i64 0]) ∧ w = w')) (n1 : -4371587 ≤ n) (n2 : n < 2932897) (d1 : 1 ≤ d) (d2 : d ≤ 31) (m1 : 1 ≤ m) (m2 : m ≤ 12) (y1 : -9999 ≤ y) (y2 : y ≤ 9999) (c : ¬ d < l) (c' : d ≤ l) (c2 : ¬ m < 12) (c3 : y < 9999) (T : PartTwo Y M D k) :
    Calls Tryd.prog 4 #[.int .i64 n, .int .i64 Y, .int .i64 M, .int .i64 D] w fun e w' => e = .returned (.bool true) ∧ w = w' := by
  rcases T with ⟨t1, t2, t3, t4, P, Q⟩ | ⟨P, T⟩
  · go_enter Tryd.func4, Tryd.ntmps4
    go_wp2_with (first
      | (go_at_call 10; (with_reducible refine (A.out _ HT.out).mono ?_); rintro e w' ⟨rfl, rfl⟩)
      | (go_at_call 8; (with_reducible refine (B.out _ HT.out).mono ?_); rintro e w' ⟨rfl, rfl⟩)
      | (go_at_call 10; (with_reducible refine (C.out _ HT.out).mono ?_); rintro e w' ⟨rfl, rfl⟩)
      | (go_at_call 14; (with_reducible refine (L.out _ HT.out).mono ?_); rintro e w' ⟨rfl, rfl⟩)
      | (go_at_call 8; (with_reducible refine (P.out _ HT.out).mono ?_); rintro e w' ⟨rfl, rfl⟩)
      | (go_at_call 14; (with_reducible refine (length_any _ _ _ HT.out).mono ?_); rintro e w' ⟨rfl, rfl⟩)
      | (go_at_call 10; (with_reducible refine (Q.out _ HT.out).mono ?_); rintro e w' ⟨rfl, rfl⟩)
      | (go_at_call 18; (with_reducible refine (awake_any _ HT.out).mono ?_); rintro e w' ⟨rfl, rfl⟩))
    go_returns
    exact ⟨rfl, rfl⟩
  · rcases T with t1 | ⟨t1, t2⟩ | ⟨t1, t2, t3⟩ | ⟨t1, t2, t3, t4⟩
    all_goals
      go_enter Tryd.func4, Tryd.ntmps4
      go_wp2_with (first
      | (go_at_call 10; (with_reducible refine (A.out _ HT.out).mono ?_); rintro e w' ⟨rfl, rfl⟩)
      | (go_at_call 8; (with_reducible refine (B.out _ HT.out).mono ?_); rintro e w' ⟨rfl, rfl⟩)
      | (go_at_call 10; (with_reducible refine (C.out _ HT.out).mono ?_); rintro e w' ⟨rfl, rfl⟩)
      | (go_at_call 14; (with_reducible refine (L.out _ HT.out).mono ?_); rintro e w' ⟨rfl, rfl⟩)
      | (go_at_call 8; (with_reducible refine (P.out _ HT.out).mono ?_); rintro e w' ⟨rfl, rfl⟩)
      | (go_at_call 14; (with_reducible refine (length_any _ _ _ HT.out).mono ?_); rintro e w' ⟨rfl, rfl⟩)
      | (go_at_call 18; (with_reducible refine (awake_any _ HT.out).mono ?_); rintro e w' ⟨rfl, rfl⟩))
      go_returns
      exact ⟨rfl, rfl⟩

set_option maxRecDepth 100000 in
set_option maxHeartbeats 4000000 in
theorem back_last (n y m d l Y M D k : Int) (w : World) (HT : Hid (Tab w)) (A : Hid (∀ w, Tab w → Calls Tryd.prog 10 #[.int .i64 n] w fun e w' => e = .returned (.tuple #[.int .i64 y, .int .i64 m, .int .i64 d, .int .i64 0]) ∧ w = w')) (B : Hid (∀ w, Tab w → Calls Tryd.prog 8 #[.int .i64 y, .int .i64 m, .int .i64 d] w fun e w' => e = .returned (.tuple #[.int .i64 n, .int .i64 0]) ∧ w = w')) (L : Hid (∀ w, Tab w → Calls Tryd.prog 14 #[.int .i64 y, .int .i64 m] w fun e w' => e = .returned (.int .i64 l) ∧ w = w')) (C : Hid (∀ w, Tab w → Calls Tryd.prog 10 #[.int .i64 (n + 1)] w fun e w' => e = .returned (.tuple #[.int .i64 0, .int .i64 0, .int .i64 0, .int .i64 30]) ∧ w = w')) (n1 : -4371587 ≤ n) (n2 : n < 2932897) (d1 : 1 ≤ d) (d2 : d ≤ 31) (m1 : 1 ≤ m) (m2 : m ≤ 12) (y1 : -9999 ≤ y) (y2 : y ≤ 9999) (c : ¬ d < l) (c' : d ≤ l) (c2 : ¬ m < 12) (c3 : ¬ y < 9999) (T : PartTwo Y M D k) :
    Calls Tryd.prog 4 #[.int .i64 n, .int .i64 Y, .int .i64 M, .int .i64 D] w fun e w' => e = .returned (.bool true) ∧ w = w' := by
  rcases T with ⟨t1, t2, t3, t4, P, Q⟩ | ⟨P, T⟩
  · go_enter Tryd.func4, Tryd.ntmps4
    go_wp2_with (first
      | (go_at_call 10; (with_reducible refine (A.out _ HT.out).mono ?_); rintro e w' ⟨rfl, rfl⟩)
      | (go_at_call 8; (with_reducible refine (B.out _ HT.out).mono ?_); rintro e w' ⟨rfl, rfl⟩)
      | (go_at_call 10; (with_reducible refine (C.out _ HT.out).mono ?_); rintro e w' ⟨rfl, rfl⟩)
      | (go_at_call 14; (with_reducible refine (L.out _ HT.out).mono ?_); rintro e w' ⟨rfl, rfl⟩)
      | (go_at_call 8; (with_reducible refine (P.out _ HT.out).mono ?_); rintro e w' ⟨rfl, rfl⟩)
      | (go_at_call 14; (with_reducible refine (length_any _ _ _ HT.out).mono ?_); rintro e w' ⟨rfl, rfl⟩)
      | (go_at_call 10; (with_reducible refine (Q.out _ HT.out).mono ?_); rintro e w' ⟨rfl, rfl⟩)
      | (go_at_call 18; (with_reducible refine (awake_any _ HT.out).mono ?_); rintro e w' ⟨rfl, rfl⟩))
    go_returns
    exact ⟨rfl, rfl⟩
  · rcases T with t1 | ⟨t1, t2⟩ | ⟨t1, t2, t3⟩ | ⟨t1, t2, t3, t4⟩
    all_goals
      go_enter Tryd.func4, Tryd.ntmps4
      go_wp2_with (first
      | (go_at_call 10; (with_reducible refine (A.out _ HT.out).mono ?_); rintro e w' ⟨rfl, rfl⟩)
      | (go_at_call 8; (with_reducible refine (B.out _ HT.out).mono ?_); rintro e w' ⟨rfl, rfl⟩)
      | (go_at_call 10; (with_reducible refine (C.out _ HT.out).mono ?_); rintro e w' ⟨rfl, rfl⟩)
      | (go_at_call 14; (with_reducible refine (L.out _ HT.out).mono ?_); rintro e w' ⟨rfl, rfl⟩)
      | (go_at_call 8; (with_reducible refine (P.out _ HT.out).mono ?_); rintro e w' ⟨rfl, rfl⟩)
      | (go_at_call 14; (with_reducible refine (length_any _ _ _ HT.out).mono ?_); rintro e w' ⟨rfl, rfl⟩)
      | (go_at_call 18; (with_reducible refine (awake_any _ HT.out).mono ?_); rintro e w' ⟨rfl, rfl⟩))
      go_returns
      exact ⟨rfl, rfl⟩

theorem back_walk (n Y M D : Int) (w : World) (hT : Tab w) :
    Calls Tryd.prog 4 #[.int .i64 n, .int .i64 Y, .int .i64 M, .int .i64 D] w fun e w' => e = .returned (.bool true) ∧ w = w' := by
  obtain ⟨k, T⟩ := partTwo Y M D
  by_cases hr : -4371587 ≤ n ∧ n < 2932897
  · obtain ⟨y, m, d, v, e⟩ := Cal.some_date n hr.1 hr.2
    obtain ⟨m1, m2⟩ := v.month
    have y1 := v.y1
    have y2 := v.y2
    have d1 := v.d1
    have d2 := v.d2
    have hl := Cal.len_bd y m m1 m2
    have A := Lib.hid (fun w hT => date_num y m d w hT v)
    have B := Lib.hid (fun w hT => days_valid y m d w hT v)
    rw [e] at A B
    have L := Lib.hid (fun w hT => length_any y m w hT)
    by_cases c : d < Cal.len y m
    · have v' : Cal.Valid y m (d + 1) := ⟨y1, y2, by omega, by omega⟩
      have C := Lib.hid (fun w hT => date_num y m (d + 1) w hT v')
      rw [show Cal.num y m (d + 1) = n + 1 by unfold Cal.num at e ⊢; omega] at C
      exact back_day n y m d _ Y M D k w (Lib.hid hT) A B L C hr.1 hr.2 d1 (by omega) m1 m2 y1 y2 c T
    · have ed : d = Cal.len y m := by omega
      have el := Cal.len_is y m m1 m2
      by_cases c2 : m < 12
      · have v' : Cal.Valid y (m + 1) 1 := ⟨y1, y2, by omega, by have := Cal.len_bd y (m + 1) (by omega) (by omega); omega⟩
        have C := Lib.hid (fun w hT => date_num y (m + 1) 1 w hT v')
        rw [show Cal.num y (m + 1) 1 = n + 1 by unfold Cal.num at e ⊢; omega] at C
        exact back_month n y m d _ Y M D k w (Lib.hid hT) A B L C hr.1 hr.2 d1 (by omega) m1 m2 y1 y2 c (by omega) c2 T
      · have em : m = 12 := by omega
        have b13 : Cal.bef y (m + 1) = 365 + Cal.lp y := by rw [em]; exact Cal.bef_last y
        have es := Cal.start_succ y
        have b1 := Cal.bef_one (y + 1)
        have hn : n + 1 = Cal.start (y + 1) := by unfold Cal.num at e; omega
        by_cases c3 : y < 9999
        · have v' : Cal.Valid (y + 1) 1 1 := ⟨by omega, by omega, by omega, by have := Cal.len_bd (y + 1) 1 (by omega) (by omega); omega⟩
          have C := Lib.hid (fun w hT => date_num (y + 1) 1 1 w hT v')
          rw [show Cal.num (y + 1) 1 1 = n + 1 by unfold Cal.num; omega] at C
          exact back_year n y m d _ Y M D k w (Lib.hid hT) A B L C hr.1 hr.2 d1 (by omega) m1 m2 y1 y2 c (by omega) c2 c3 T
        · have ey : y = 9999 := by omega
          rw [ey] at hn
          have e4 : Cal.start (9999 + 1) = 2932897 := by decide
          have C := Lib.hid (fun w (_ : Tab w) => date_err (n + 1) w (by omega))
          exact back_last n y m d _ Y M D k w (Lib.hid hT) A B L C hr.1 hr.2 d1 (by omega) m1 m2 y1 y2 c (by omega) c2 c3 T
  · exact back_none n 0 0 0 0 Y M D k w (Lib.hid hT) (Lib.hid fun w => date_err n w hr) T

theorem back_law (n Y M D : Int) (w : World) (tab : ∀ i : Nat, i < 13 → w.cell? ⟨0, i, none⟩ = some (.int .i64 ([0, 31, 59, 90, 120, 151, 181, 212, 243, 273, 304, 334, 365].getD i 0)))
    (_ : -9223372036854775808 ≤ n) (_ : n ≤ 9223372036854775807) (_ : -9223372036854775808 ≤ Y) (_ : Y ≤ 9223372036854775807) (_ : -9223372036854775808 ≤ M) (_ : M ≤ 9223372036854775807) (_ : -9223372036854775808 ≤ D) (_ : D ≤ 9223372036854775807) :
    Calls Tryd.prog 4 #[.int .i64 n, .int .i64 Y, .int .i64 M, .int .i64 D] w fun e w' => e = .returned (.bool true) ∧ Below w.heap.size w w' :=
  (back_walk n Y M D w (tab_of tab)).mono fun e w' ⟨a, b⟩ => ⟨a, b ▸ Below.refl _ _⟩
end Go.Proofs.YtplbdfdpcgmcjacDoor
