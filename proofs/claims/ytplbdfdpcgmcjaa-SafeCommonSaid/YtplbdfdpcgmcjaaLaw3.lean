/- The walk of the law SafeCommon: for every three numbers of 64 bits it answers true. -/
import Derived.Test.YtplbdfdpcgmcjaaFn6
namespace Go.Proofs.Ytplbdfdpcgmcjaa
set_option linter.unusedVariables false
open Go.ChangeShapes Go.WideShapes Go.ChangeAt Go.RowKit

/-- What the tests on a third number come to: it is 0; or it does not divide the first; or not the second; or it divides all. -/
theorem third (a b c g : Int) (hg : 0 ≤ g) (hd : ∀ d : Int, d ∣ a → d ∣ b → d ∣ g) :
    (c != 0) = false ∨ (c ≠ 0 ∧ (c != 0) = true ∧ ((a.tmod c == 0) = false ∨ (a.tmod c == 0) = true ∧ ((b.tmod c == 0) = false ∨ (b.tmod c == 0) = true ∧ (g % c != 0) = false))) := by
  by_cases h0 : c = 0
  · left; simpa using h0
  · right
    refine ⟨h0, by simpa using h0, ?_⟩
    by_cases h1 : a.tmod c = 0
    · right
      refine ⟨by simpa using h1, ?_⟩
      by_cases h2 : b.tmod c = 0
      · right
        refine ⟨by simpa using h2, ?_⟩
        have := hd c (Int.dvd_of_tmod_eq_zero h1) (Int.dvd_of_tmod_eq_zero h2)
        simp [Int.emod_eq_zero_of_dvd this]
      · left; simpa using h2
    · left; simpa using h1

theorem mul_some (a b : Int) (ha1 : -9223372036854775808 ≤ a) (ha2 : a ≤ 9223372036854775807) (hb1 : -9223372036854775808 ≤ b) (hb2 : b ≤ 9223372036854775807) :
    ∃ x y : Int, Hid (∀ w, Calls Try.prog 13 #[.int .i64 a, .int .i64 b] w fun e w' => e = .returned (.tuple #[.int .i64 x, .int .i64 y]) ∧ w = w') := by
  by_cases hm : -9223372036854775808 ≤ a * b ∧ a * b ≤ 9223372036854775807
  · exact ⟨_, _, Lib.hid fun w => mul_ok a b w ha1 ha2 hb1 hb2 hm.1 hm.2⟩
  · exact ⟨_, _, Lib.hid fun w => mul_over a b w ha1 ha2 hb1 hb2 (by omega)⟩

set_option maxRecDepth 100000 in
set_option maxHeartbeats 4000000 in
theorem tail_z1 (a b c g l f p h q i : Int) (w : World) (ha1 : -9223372036854775808 ≤ a) (ha2 : a ≤ 9223372036854775807) (hb1 : -9223372036854775808 ≤ b) (hb2 : b ≤ 9223372036854775807) (hc1 : -9223372036854775808 ≤ c) (hc2 : c ≤ 9223372036854775807) (g0 : 0 < g) (D1 : (a.tmod g != 0) = false) (D2 : (b.tmod g != 0) = false) (T : Hid ((c != 0) = false ∨ (c ≠ 0 ∧ (c != 0) = true ∧ ((a.tmod c == 0) = false ∨ (a.tmod c == 0) = true ∧ ((b.tmod c == 0) = false ∨ (b.tmod c == 0) = true ∧ (g % c != 0) = false)))))
    (G : Hid (∀ w, Calls Try.prog 17 #[.int .i64 a, .int .i64 b] w fun e w' => e = .returned (.tuple #[.int .i64 g, .int .i64 0]) ∧ ∃ n, w' = w.drewN n)) (L : Hid (∀ w, Calls Try.prog 19 #[.int .i64 a, .int .i64 b] w fun e w' => e = .returned (.tuple #[.int .i64 0, .int .i64 0]) ∧ ∃ n, w' = w.drewN n)) (M : Hid (∀ w, Calls Try.prog 13 #[.int .i64 a, .int .i64 b] w fun e w' => e = .returned (.tuple #[.int .i64 0, .int .i64 0]) ∧ w = w')) (N : Hid (∀ w, Calls Try.prog 13 #[.int .i64 g, .int .i64 0] w fun e w' => e = .returned (.tuple #[.int .i64 0, .int .i64 0]) ∧ w = w'))
    (za : (a == 0) = true) (zb : (b == 0) = false) :
    Calls Try.prog 7 #[.int .i64 a, .int .i64 b, .int .i64 c] w fun e w' => e = .returned (.bool true) ∧ Below w.heap.size w w' := by
  rcases T.out with t1 | ⟨t0, t1, t2 | ⟨t2, t3 | ⟨t3, t4⟩⟩⟩
  all_goals
    clear T
    have g1 : (g == 0) = false := by simp; omega
    have g2 : decide (g < 0) = false := by simp; omega
    go_enter Try.func7, Try.ntmps7
    go_wp2_with (first
      | (go_at_call 17; (with_reducible refine (G.out _).mono ?_); rintro e w' ⟨rfl, n, rfl⟩)
      | (go_at_call 19; (with_reducible refine (L.out _).mono ?_); rintro e w' ⟨rfl, m, rfl⟩)
      | (go_at_call 13; (with_reducible refine (M.out _).mono ?_); rintro e w' ⟨rfl, rfl⟩)
      | (go_at_call 13; (with_reducible refine (N.out _).mono ?_); rintro e w' ⟨rfl, rfl⟩)
      | (go_at_call 21; (with_reducible refine (awake_any _).mono ?_); rintro e w' ⟨rfl, hbw⟩))
    all_goals
      go_returns
      exact ⟨rfl, (below_drewN' (Below.refl _ _) _).trans (by assumption)⟩

set_option maxRecDepth 100000 in
set_option maxHeartbeats 4000000 in
theorem tail_z2 (a b c g l f p h q i : Int) (w : World) (ha1 : -9223372036854775808 ≤ a) (ha2 : a ≤ 9223372036854775807) (hb1 : -9223372036854775808 ≤ b) (hb2 : b ≤ 9223372036854775807) (hc1 : -9223372036854775808 ≤ c) (hc2 : c ≤ 9223372036854775807) (g0 : 0 < g) (D1 : (a.tmod g != 0) = false) (D2 : (b.tmod g != 0) = false) (T : Hid ((c != 0) = false ∨ (c ≠ 0 ∧ (c != 0) = true ∧ ((a.tmod c == 0) = false ∨ (a.tmod c == 0) = true ∧ ((b.tmod c == 0) = false ∨ (b.tmod c == 0) = true ∧ (g % c != 0) = false)))))
    (G : Hid (∀ w, Calls Try.prog 17 #[.int .i64 a, .int .i64 b] w fun e w' => e = .returned (.tuple #[.int .i64 g, .int .i64 0]) ∧ ∃ n, w' = w.drewN n)) (L : Hid (∀ w, Calls Try.prog 19 #[.int .i64 a, .int .i64 b] w fun e w' => e = .returned (.tuple #[.int .i64 0, .int .i64 0]) ∧ ∃ n, w' = w.drewN n)) (M : Hid (∀ w, Calls Try.prog 13 #[.int .i64 a, .int .i64 b] w fun e w' => e = .returned (.tuple #[.int .i64 0, .int .i64 0]) ∧ w = w')) (N : Hid (∀ w, Calls Try.prog 13 #[.int .i64 g, .int .i64 0] w fun e w' => e = .returned (.tuple #[.int .i64 0, .int .i64 0]) ∧ w = w'))
    (za : (a == 0) = false) (zb : (b == 0) = true) :
    Calls Try.prog 7 #[.int .i64 a, .int .i64 b, .int .i64 c] w fun e w' => e = .returned (.bool true) ∧ Below w.heap.size w w' := by
  rcases T.out with t1 | ⟨t0, t1, t2 | ⟨t2, t3 | ⟨t3, t4⟩⟩⟩
  all_goals
    clear T
    have g1 : (g == 0) = false := by simp; omega
    have g2 : decide (g < 0) = false := by simp; omega
    go_enter Try.func7, Try.ntmps7
    go_wp2_with (first
      | (go_at_call 17; (with_reducible refine (G.out _).mono ?_); rintro e w' ⟨rfl, n, rfl⟩)
      | (go_at_call 19; (with_reducible refine (L.out _).mono ?_); rintro e w' ⟨rfl, m, rfl⟩)
      | (go_at_call 13; (with_reducible refine (M.out _).mono ?_); rintro e w' ⟨rfl, rfl⟩)
      | (go_at_call 13; (with_reducible refine (N.out _).mono ?_); rintro e w' ⟨rfl, rfl⟩)
      | (go_at_call 21; (with_reducible refine (awake_any _).mono ?_); rintro e w' ⟨rfl, hbw⟩))
    all_goals
      go_returns
      exact ⟨rfl, (below_drewN' (Below.refl _ _) _).trans (by assumption)⟩

set_option maxRecDepth 100000 in
set_option maxHeartbeats 4000000 in
theorem tail_over (a b c g l f p h q i : Int) (w : World) (ha1 : -9223372036854775808 ≤ a) (ha2 : a ≤ 9223372036854775807) (hb1 : -9223372036854775808 ≤ b) (hb2 : b ≤ 9223372036854775807) (hc1 : -9223372036854775808 ≤ c) (hc2 : c ≤ 9223372036854775807) (g0 : 0 < g) (D1 : (a.tmod g != 0) = false) (D2 : (b.tmod g != 0) = false) (T : Hid ((c != 0) = false ∨ (c ≠ 0 ∧ (c != 0) = true ∧ ((a.tmod c == 0) = false ∨ (a.tmod c == 0) = true ∧ ((b.tmod c == 0) = false ∨ (b.tmod c == 0) = true ∧ (g % c != 0) = false)))))
    (G : Hid (∀ w, Calls Try.prog 17 #[.int .i64 a, .int .i64 b] w fun e w' => e = .returned (.tuple #[.int .i64 g, .int .i64 0]) ∧ ∃ n, w' = w.drewN n)) (L : Hid (∀ w, Calls Try.prog 19 #[.int .i64 a, .int .i64 b] w fun e w' => e = .returned (.tuple #[.int .i64 0, .int .i64 10]) ∧ ∃ n, w' = w.drewN n)) (M : Hid (∀ w, Calls Try.prog 13 #[.int .i64 a, .int .i64 b] w fun e w' => e = .returned (.tuple #[.int .i64 p, .int .i64 h]) ∧ w = w')) (N : Hid (∀ w, Calls Try.prog 13 #[.int .i64 g, .int .i64 0] w fun e w' => e = .returned (.tuple #[.int .i64 0, .int .i64 0]) ∧ w = w'))
    (za : (a == 0) = false) (zb : (b == 0) = false) :
    Calls Try.prog 7 #[.int .i64 a, .int .i64 b, .int .i64 c] w fun e w' => e = .returned (.bool true) ∧ Below w.heap.size w w' := by
  rcases T.out with t1 | ⟨t0, t1, t2 | ⟨t2, t3 | ⟨t3, t4⟩⟩⟩
  all_goals
    clear T
    have g1 : (g == 0) = false := by simp; omega
    have g2 : decide (g < 0) = false := by simp; omega
    go_enter Try.func7, Try.ntmps7
    go_wp2_with (first
      | (go_at_call 17; (with_reducible refine (G.out _).mono ?_); rintro e w' ⟨rfl, n, rfl⟩)
      | (go_at_call 19; (with_reducible refine (L.out _).mono ?_); rintro e w' ⟨rfl, m, rfl⟩)
      | (go_at_call 13; (with_reducible refine (M.out _).mono ?_); rintro e w' ⟨rfl, rfl⟩)
      | (go_at_call 13; (with_reducible refine (N.out _).mono ?_); rintro e w' ⟨rfl, rfl⟩)
      | (go_at_call 21; (with_reducible refine (awake_any _).mono ?_); rintro e w' ⟨rfl, hbw⟩))
    all_goals
      go_returns
      exact ⟨rfl, (below_drewN' (Below.refl _ _) _).trans (by assumption)⟩

set_option maxRecDepth 100000 in
set_option maxHeartbeats 4000000 in
theorem tail_qover (a b c g l f p h q i : Int) (w : World) (ha1 : -9223372036854775808 ≤ a) (ha2 : a ≤ 9223372036854775807) (hb1 : -9223372036854775808 ≤ b) (hb2 : b ≤ 9223372036854775807) (hc1 : -9223372036854775808 ≤ c) (hc2 : c ≤ 9223372036854775807) (g0 : 0 < g) (D1 : (a.tmod g != 0) = false) (D2 : (b.tmod g != 0) = false) (T : Hid ((c != 0) = false ∨ (c ≠ 0 ∧ (c != 0) = true ∧ ((a.tmod c == 0) = false ∨ (a.tmod c == 0) = true ∧ ((b.tmod c == 0) = false ∨ (b.tmod c == 0) = true ∧ (g % c != 0) = false)))))
    (G : Hid (∀ w, Calls Try.prog 17 #[.int .i64 a, .int .i64 b] w fun e w' => e = .returned (.tuple #[.int .i64 g, .int .i64 0]) ∧ ∃ n, w' = w.drewN n)) (L : Hid (∀ w, Calls Try.prog 19 #[.int .i64 a, .int .i64 b] w fun e w' => e = .returned (.tuple #[.int .i64 l, .int .i64 0]) ∧ ∃ n, w' = w.drewN n)) (M : Hid (∀ w, Calls Try.prog 13 #[.int .i64 a, .int .i64 b] w fun e w' => e = .returned (.tuple #[.int .i64 p, .int .i64 h]) ∧ w = w')) (N : Hid (∀ w, Calls Try.prog 13 #[.int .i64 g, .int .i64 l] w fun e w' => e = .returned (.tuple #[.int .i64 0, .int .i64 10]) ∧ w = w'))
    (za : (a == 0) = false) (zb : (b == 0) = false) (l0 : 0 < l) :
    Calls Try.prog 7 #[.int .i64 a, .int .i64 b, .int .i64 c] w fun e w' => e = .returned (.bool true) ∧ Below w.heap.size w w' := by
  rcases T.out with t1 | ⟨t0, t1, t2 | ⟨t2, t3 | ⟨t3, t4⟩⟩⟩
  all_goals
    clear T
    have g1 : (g == 0) = false := by simp; omega
    have g2 : decide (g < 0) = false := by simp; omega
    have l1 : (l == 0) = false := by simp; omega
    have l2 : decide (0 ≤ l) = true := by simp; omega
    go_enter Try.func7, Try.ntmps7
    go_wp2_with (first
      | (go_at_call 17; (with_reducible refine (G.out _).mono ?_); rintro e w' ⟨rfl, n, rfl⟩)
      | (go_at_call 19; (with_reducible refine (L.out _).mono ?_); rintro e w' ⟨rfl, m, rfl⟩)
      | (go_at_call 13; (with_reducible refine (M.out _).mono ?_); rintro e w' ⟨rfl, rfl⟩)
      | (go_at_call 13; (with_reducible refine (N.out _).mono ?_); rintro e w' ⟨rfl, rfl⟩)
      | (go_at_call 21; (with_reducible refine (awake_any _).mono ?_); rintro e w' ⟨rfl, hbw⟩))
    all_goals
      go_returns
      exact ⟨rfl, (below_drewN' (Below.refl _ _) _).trans (by assumption)⟩

set_option maxRecDepth 100000 in
set_option maxHeartbeats 4000000 in
theorem tail_same (a b c g l f p h q i : Int) (w : World) (ha1 : -9223372036854775808 ≤ a) (ha2 : a ≤ 9223372036854775807) (hb1 : -9223372036854775808 ≤ b) (hb2 : b ≤ 9223372036854775807) (hc1 : -9223372036854775808 ≤ c) (hc2 : c ≤ 9223372036854775807) (g0 : 0 < g) (D1 : (a.tmod g != 0) = false) (D2 : (b.tmod g != 0) = false) (T : Hid ((c != 0) = false ∨ (c ≠ 0 ∧ (c != 0) = true ∧ ((a.tmod c == 0) = false ∨ (a.tmod c == 0) = true ∧ ((b.tmod c == 0) = false ∨ (b.tmod c == 0) = true ∧ (g % c != 0) = false)))))
    (G : Hid (∀ w, Calls Try.prog 17 #[.int .i64 a, .int .i64 b] w fun e w' => e = .returned (.tuple #[.int .i64 g, .int .i64 0]) ∧ ∃ n, w' = w.drewN n)) (L : Hid (∀ w, Calls Try.prog 19 #[.int .i64 a, .int .i64 b] w fun e w' => e = .returned (.tuple #[.int .i64 l, .int .i64 0]) ∧ ∃ n, w' = w.drewN n)) (M : Hid (∀ w, Calls Try.prog 13 #[.int .i64 a, .int .i64 b] w fun e w' => e = .returned (.tuple #[.int .i64 p, .int .i64 0]) ∧ w = w')) (N : Hid (∀ w, Calls Try.prog 13 #[.int .i64 g, .int .i64 l] w fun e w' => e = .returned (.tuple #[.int .i64 p, .int .i64 0]) ∧ w = w'))
    (za : (a == 0) = false) (zb : (b == 0) = false) (l0 : 0 < l) :
    Calls Try.prog 7 #[.int .i64 a, .int .i64 b, .int .i64 c] w fun e w' => e = .returned (.bool true) ∧ Below w.heap.size w w' := by
  rcases T.out with t1 | ⟨t0, t1, t2 | ⟨t2, t3 | ⟨t3, t4⟩⟩⟩
  all_goals
    clear T
    have g1 : (g == 0) = false := by simp; omega
    have g2 : decide (g < 0) = false := by simp; omega
    have l1 : (l == 0) = false := by simp; omega
    have l2 : decide (0 ≤ l) = true := by simp; omega
    go_enter Try.func7, Try.ntmps7
    go_wp2_with (first
      | (go_at_call 17; (with_reducible refine (G.out _).mono ?_); rintro e w' ⟨rfl, n, rfl⟩)
      | (go_at_call 19; (with_reducible refine (L.out _).mono ?_); rintro e w' ⟨rfl, m, rfl⟩)
      | (go_at_call 13; (with_reducible refine (M.out _).mono ?_); rintro e w' ⟨rfl, rfl⟩)
      | (go_at_call 13; (with_reducible refine (N.out _).mono ?_); rintro e w' ⟨rfl, rfl⟩)
      | (go_at_call 21; (with_reducible refine (awake_any _).mono ?_); rintro e w' ⟨rfl, hbw⟩))
    all_goals
      go_returns
      exact ⟨rfl, (below_drewN' (Below.refl _ _) _).trans (by assumption)⟩

set_option maxRecDepth 100000 in
set_option maxHeartbeats 4000000 in
theorem tail_neg (a b c g l f p h q i : Int) (w : World) (ha1 : -9223372036854775808 ≤ a) (ha2 : a ≤ 9223372036854775807) (hb1 : -9223372036854775808 ≤ b) (hb2 : b ≤ 9223372036854775807) (hc1 : -9223372036854775808 ≤ c) (hc2 : c ≤ 9223372036854775807) (g0 : 0 < g) (D1 : (a.tmod g != 0) = false) (D2 : (b.tmod g != 0) = false) (T : Hid ((c != 0) = false ∨ (c ≠ 0 ∧ (c != 0) = true ∧ ((a.tmod c == 0) = false ∨ (a.tmod c == 0) = true ∧ ((b.tmod c == 0) = false ∨ (b.tmod c == 0) = true ∧ (g % c != 0) = false)))))
    (G : Hid (∀ w, Calls Try.prog 17 #[.int .i64 a, .int .i64 b] w fun e w' => e = .returned (.tuple #[.int .i64 g, .int .i64 0]) ∧ ∃ n, w' = w.drewN n)) (L : Hid (∀ w, Calls Try.prog 19 #[.int .i64 a, .int .i64 b] w fun e w' => e = .returned (.tuple #[.int .i64 l, .int .i64 0]) ∧ ∃ n, w' = w.drewN n)) (M : Hid (∀ w, Calls Try.prog 13 #[.int .i64 a, .int .i64 b] w fun e w' => e = .returned (.tuple #[.int .i64 p, .int .i64 0]) ∧ w = w')) (N : Hid (∀ w, Calls Try.prog 13 #[.int .i64 g, .int .i64 l] w fun e w' => e = .returned (.tuple #[.int .i64 (-p), .int .i64 0]) ∧ w = w'))
    (za : (a == 0) = false) (zb : (b == 0) = false) (l0 : 0 < l) (p1 : -9223372036854775807 ≤ p) (p2 : p < 0) :
    Calls Try.prog 7 #[.int .i64 a, .int .i64 b, .int .i64 c] w fun e w' => e = .returned (.bool true) ∧ Below w.heap.size w w' := by
  rcases T.out with t1 | ⟨t0, t1, t2 | ⟨t2, t3 | ⟨t3, t4⟩⟩⟩
  all_goals
    clear T
    have g1 : (g == 0) = false := by simp; omega
    have g2 : decide (g < 0) = false := by simp; omega
    have l1 : (l == 0) = false := by simp; omega
    have l2 : decide (0 ≤ l) = true := by simp; omega
    go_enter Try.func7, Try.ntmps7
    go_wp2_with (first
      | (go_at_call 17; (with_reducible refine (G.out _).mono ?_); rintro e w' ⟨rfl, n, rfl⟩)
      | (go_at_call 19; (with_reducible refine (L.out _).mono ?_); rintro e w' ⟨rfl, m, rfl⟩)
      | (go_at_call 13; (with_reducible refine (M.out _).mono ?_); rintro e w' ⟨rfl, rfl⟩)
      | (go_at_call 13; (with_reducible refine (N.out _).mono ?_); rintro e w' ⟨rfl, rfl⟩)
      | (go_at_call 21; (with_reducible refine (awake_any _).mono ?_); rintro e w' ⟨rfl, hbw⟩))
    all_goals
      go_returns
      exact ⟨rfl, (below_drewN' (Below.refl _ _) _).trans (by assumption)⟩


set_option maxRecDepth 100000 in
set_option maxHeartbeats 4000000 in
theorem tail_00 (c : Int) (w : World) (hc1 : -9223372036854775808 ≤ c) (hc2 : c ≤ 9223372036854775807) :
    Calls Try.prog 7 #[.int .i64 0, .int .i64 0, .int .i64 c] w fun e w' => e = .returned (.bool true) ∧ Below w.heap.size w w' := by
  have G : Hid (∀ w, Calls Try.prog 17 #[.int .i64 0, .int .i64 0] w fun e w' => e = .returned (.tuple #[.int .i64 0, .int .i64 0]) ∧ ∃ n, w' = w.drewN n) := Lib.hid fun w => gcd_ok 0 0 w (by omega) (by omega) (by omega) (by omega) (by decide)
  have L : Hid (∀ w, Calls Try.prog 19 #[.int .i64 0, .int .i64 0] w fun e w' => e = .returned (.tuple #[.int .i64 0, .int .i64 0]) ∧ w = w') := Lib.hid fun w => lcm_zero 0 0 w (.inl rfl)
  have M : Hid (∀ w, Calls Try.prog 13 #[.int .i64 0, .int .i64 0] w fun e w' => e = .returned (.tuple #[.int .i64 0, .int .i64 0]) ∧ w = w') := Lib.hid fun w => mul_ok 0 0 w (by omega) (by omega) (by omega) (by omega) (by omega) (by omega)
  by_cases h0 : c = 0
  · have t1 : (c != 0) = false := by simpa using h0
    clear h0
    go_enter Try.func7, Try.ntmps7
    go_wp2_with (first
      | (go_at_call 17; (with_reducible refine (G.out _).mono ?_); rintro e w' ⟨rfl, n, rfl⟩)
      | (go_at_call 19; (with_reducible refine (L.out _).mono ?_); rintro e w' ⟨rfl, rfl⟩)
      | (go_at_call 13; (with_reducible refine (M.out _).mono ?_); rintro e w' ⟨rfl, rfl⟩)
      | (go_at_call 21; (with_reducible refine (awake_any _).mono ?_); rintro e w' ⟨rfl, hbw⟩))
    go_returns
    exact ⟨rfl, (below_drewN' (Below.refl _ _) _).trans (by assumption)⟩
  · have t1 : (c != 0) = true := by simpa using h0
    go_enter Try.func7, Try.ntmps7
    go_wp2_with (first
      | (go_at_call 17; (with_reducible refine (G.out _).mono ?_); rintro e w' ⟨rfl, n, rfl⟩)
      | (go_at_call 19; (with_reducible refine (L.out _).mono ?_); rintro e w' ⟨rfl, rfl⟩)
      | (go_at_call 13; (with_reducible refine (M.out _).mono ?_); rintro e w' ⟨rfl, rfl⟩)
      | (go_at_call 21; (with_reducible refine (awake_any _).mono ?_); rintro e w' ⟨rfl, hbw⟩))
    go_returns
    exact ⟨rfl, (below_drewN' (Below.refl _ _) _).trans (by assumption)⟩

set_option maxRecDepth 100000 in
set_option maxHeartbeats 4000000 in
theorem tail_big (a b c l f : Int) (w : World) (hc1 : -9223372036854775808 ≤ c) (hc2 : c ≤ 9223372036854775807) (h1 : a = -9223372036854775808 ∨ a = 0) (h2 : b = -9223372036854775808 ∨ b = 0)
    (G : Hid (∀ w, Calls Try.prog 17 #[.int .i64 a, .int .i64 b] w fun e w' => e = .returned (.tuple #[.int .i64 0, .int .i64 10]) ∧ ∃ n, w' = w.drewN n))
    (L : Hid (∀ w, Calls Try.prog 19 #[.int .i64 a, .int .i64 b] w fun e w' => e = .returned (.tuple #[.int .i64 l, .int .i64 f]) ∧ ∃ n, w' = w.drewN n)) :
    Calls Try.prog 7 #[.int .i64 a, .int .i64 b, .int .i64 c] w fun e w' => e = .returned (.bool true) ∧ Below w.heap.size w w' := by
  rcases h1 with rfl | rfl <;> rcases h2 with rfl | rfl
  all_goals
    go_enter Try.func7, Try.ntmps7
    go_wp2_with (first
      | (go_at_call 17; (with_reducible refine (G.out _).mono ?_); rintro e w' ⟨rfl, n, rfl⟩)
      | (go_at_call 19; (with_reducible refine (L.out _).mono ?_); rintro e w' ⟨rfl, m, rfl⟩)
      | (go_at_call 21; (with_reducible refine (awake_any _).mono ?_); rintro e w' ⟨rfl, hbw⟩))
    go_returns
    exact ⟨rfl, (below_drewN' (Below.refl _ _) _).trans (by assumption)⟩

theorem lcm_prod (a b : Int) (h : 0 < Nat.gcd a.natAbs b.natAbs) : Nat.gcd a.natAbs b.natAbs * lcmN a b = a.natAbs * b.natAbs := by
  unfold lcmN
  rw [← Nat.mul_assoc, Nat.mul_div_cancel' (Nat.gcd_dvd_left _ _)]

theorem common_walk (a b c : Int) (w : World) (ha1 : -9223372036854775808 ≤ a) (ha2 : a ≤ 9223372036854775807) (hb1 : -9223372036854775808 ≤ b) (hb2 : b ≤ 9223372036854775807) (hc1 : -9223372036854775808 ≤ c) (hc2 : c ≤ 9223372036854775807) :
    Calls Try.prog 7 #[.int .i64 a, .int .i64 b, .int .i64 c] w fun e w' => e = .returned (.bool true) ∧ Below w.heap.size w w' := by
  by_cases h00 : a = 0 ∧ b = 0
  · obtain ⟨rfl, rfl⟩ := h00
    exact tail_00 c w hc1 hc2
  · have hpos : 0 < Nat.gcd a.natAbs b.natAbs := by
      rcases Nat.eq_zero_or_pos (Nat.gcd a.natAbs b.natAbs) with h | h
      · have := Nat.gcd_eq_zero_iff.1 h; omega
      · exact h
    have hpr := lcm_prod a b hpos
    have hda : (Nat.gcd a.natAbs b.natAbs : Int) ∣ a := Int.ofNat_dvd_left.2 (Nat.gcd_dvd_left _ _)
    have hdb : (Nat.gcd a.natAbs b.natAbs : Int) ∣ b := Int.ofNat_dvd_left.2 (Nat.gcd_dvd_right _ _)
    have T := third a b c (Nat.gcd a.natAbs b.natAbs : Nat) (by omega) (fun d h1 h2 => Int.ofNat_dvd_right.2 (Nat.dvd_gcd (Int.natAbs_dvd_natAbs.2 h1) (Int.natAbs_dvd_natAbs.2 h2)))
    have T := Lib.hid T
    by_cases hg : Nat.gcd a.natAbs b.natAbs ≤ 9223372036854775807
    · have G := Lib.hid (fun w => gcd_ok a b w ha1 ha2 hb1 hb2 hg)
      have D1 : (a.tmod (Nat.gcd a.natAbs b.natAbs : Nat) != 0) = false := by simp [Int.tmod_eq_zero_of_dvd hda]
      have D2 : (b.tmod (Nat.gcd a.natAbs b.natAbs : Nat) != 0) = false := by simp [Int.tmod_eq_zero_of_dvd hdb]
      by_cases hz : a = 0 ∨ b = 0
      · have L : Hid (∀ w, Calls Try.prog 19 #[.int .i64 a, .int .i64 b] w fun e w' => e = .returned (.tuple #[.int .i64 0, .int .i64 0]) ∧ ∃ n, w' = w.drewN n) := Lib.hid fun w => (lcm_zero a b w hz).mono fun e w' ⟨h1, h2⟩ => ⟨h1, 0, h2.symm⟩
        have e0 : a * b = 0 := by rcases hz with h | h <;> simp [h]
        have M : Hid (∀ w, Calls Try.prog 13 #[.int .i64 a, .int .i64 b] w fun e w' => e = .returned (.tuple #[.int .i64 0, .int .i64 0]) ∧ w = w') := Lib.hid fun w => by
          have h := mul_ok a b w ha1 ha2 hb1 hb2 (by omega) (by omega)
          rw [e0] at h
          exact h
        have N : Hid (∀ w, Calls Try.prog 13 #[.int .i64 (Nat.gcd a.natAbs b.natAbs : Nat), .int .i64 0] w fun e w' => e = .returned (.tuple #[.int .i64 0, .int .i64 0]) ∧ w = w') := Lib.hid fun w => by
          have h := mul_ok (Nat.gcd a.natAbs b.natAbs : Nat) 0 w (by omega) (by omega) (by omega) (by omega) (by omega) (by omega)
          rw [Int.mul_zero] at h
          exact h
        rcases hz with h | h
        · exact tail_z1 a b c _ 0 0 0 0 0 0 w ha1 ha2 hb1 hb2 hc1 hc2 (by omega) D1 D2 T G L M N (by simpa using h) (by simp; omega)
        · exact tail_z2 a b c _ 0 0 0 0 0 0 w ha1 ha2 hb1 hb2 hc1 hc2 (by omega) D1 D2 T G L M N (by simp; omega) (by simpa using h)
      · have ha : a ≠ 0 := by omega
        have hb : b ≠ 0 := by omega
        have za : (a == 0) = false := by simpa using ha
        have zb : (b == 0) = false := by simpa using hb
        by_cases hl : lcmN a b ≤ 9223372036854775807
        · have L := Lib.hid (fun w => lcm_ok a b w ha1 ha2 hb1 hb2 ha hb hl)
          have hprod : ((Nat.gcd a.natAbs b.natAbs : Nat) : Int) * (lcmN a b : Nat) = (a * b).natAbs := by
            rw [Int.natAbs_mul, ← hpr]; simp
          have lpos : 0 < lcmN a b := by
            rcases Nat.eq_zero_or_pos (lcmN a b) with h | h
            · rw [h] at hpr
              have : a.natAbs * b.natAbs ≠ 0 := Nat.mul_ne_zero (by omega) (by omega)
              omega
            · exact h
          by_cases hq : (a * b).natAbs ≤ 9223372036854775807
          · have M := Lib.hid (fun w => mul_ok a b w ha1 ha2 hb1 hb2 (by omega) (by omega))
            by_cases hs : 0 ≤ a * b
            · have N : Hid (∀ w, Calls Try.prog 13 #[.int .i64 (Nat.gcd a.natAbs b.natAbs : Nat), .int .i64 (lcmN a b : Nat)] w fun e w' => e = .returned (.tuple #[.int .i64 (a * b), .int .i64 0]) ∧ w = w') := Lib.hid fun w => by
                have h := mul_ok (Nat.gcd a.natAbs b.natAbs : Nat) (lcmN a b : Nat) w (by omega) (by omega) (by omega) (by omega) (by rw [hprod]; omega) (by rw [hprod]; omega)
                rw [hprod, Int.natAbs_of_nonneg hs] at h
                exact h
              exact tail_same a b c _ _ 0 _ 0 0 0 w ha1 ha2 hb1 hb2 hc1 hc2 (by omega) D1 D2 T G L M N za zb (by omega)
            · have N : Hid (∀ w, Calls Try.prog 13 #[.int .i64 (Nat.gcd a.natAbs b.natAbs : Nat), .int .i64 (lcmN a b : Nat)] w fun e w' => e = .returned (.tuple #[.int .i64 (-(a * b)), .int .i64 0]) ∧ w = w') := Lib.hid fun w => by
                have h := mul_ok (Nat.gcd a.natAbs b.natAbs : Nat) (lcmN a b : Nat) w (by omega) (by omega) (by omega) (by omega) (by rw [hprod]; omega) (by rw [hprod]; omega)
                rw [hprod, Int.ofNat_natAbs_of_nonpos (by omega)] at h
                exact h
              exact tail_neg a b c _ _ 0 _ 0 0 0 w ha1 ha2 hb1 hb2 hc1 hc2 (by omega) D1 D2 T G L M N za zb (by omega) (by omega) (by omega)
          · obtain ⟨p, h, M⟩ := mul_some a b ha1 ha2 hb1 hb2
            have N := Lib.hid (fun w => mul_over (Nat.gcd a.natAbs b.natAbs : Nat) (lcmN a b : Nat) w (by omega) (by omega) (by omega) (by omega) (by rw [hprod]; omega))
            exact tail_qover a b c _ _ 0 p h 0 0 w ha1 ha2 hb1 hb2 hc1 hc2 (by omega) D1 D2 T G L M N za zb (by omega)
        · have L := Lib.hid (fun w => lcm_over a b w ha1 ha2 hb1 hb2 ha hb (by omega))
          obtain ⟨p, h, M⟩ := mul_some a b ha1 ha2 hb1 hb2
          have N : Hid (∀ w, Calls Try.prog 13 #[.int .i64 (Nat.gcd a.natAbs b.natAbs : Nat), .int .i64 0] w fun e w' => e = .returned (.tuple #[.int .i64 0, .int .i64 0]) ∧ w = w') := Lib.hid fun w => by
            have h := mul_ok (Nat.gcd a.natAbs b.natAbs : Nat) 0 w (by omega) (by omega) (by omega) (by omega) (by omega) (by omega)
            rw [Int.mul_zero] at h
            exact h
          exact tail_over a b c _ 0 0 p h 0 0 w ha1 ha2 hb1 hb2 hc1 hc2 (by omega) D1 D2 T G L M N za zb
    · have ka := Nat.gcd_dvd_left a.natAbs b.natAbs
      have kb := Nat.gcd_dvd_right a.natAbs b.natAbs
      have h1 : a = -9223372036854775808 ∨ a = 0 := by
        by_cases h : a = 0
        · exact .inr h
        · have := Nat.le_of_dvd (by omega) ka; omega
      have h2 : b = -9223372036854775808 ∨ b = 0 := by
        by_cases h : b = 0
        · exact .inr h
        · have := Nat.le_of_dvd (by omega) kb; omega
      have hle : Nat.gcd a.natAbs b.natAbs ≤ 9223372036854775808 := by
        rcases h1 with h | h
        · have := Nat.le_of_dvd (by omega) ka; omega
        · have := Nat.le_of_dvd (by omega) kb; omega
      have G := fun w => gcd_over a b w ha1 ha2 hb1 hb2 (by omega) hle
      clear hg hda hdb hpr hpos ka kb hle T
      rcases h1 with rfl | rfl <;> rcases h2 with rfl | rfl
      · exact tail_big _ _ c 0 10 w hc1 hc2 (.inl rfl) (.inl rfl) (Lib.hid G) (Lib.hid fun w => lcm_over _ _ w (by omega) (by omega) (by omega) (by omega) (by omega) (by omega) (by decide))
      · exact tail_big _ _ c 0 0 w hc1 hc2 (.inl rfl) (.inr rfl) (Lib.hid G) (Lib.hid fun w => (lcm_zero _ _ w (.inr rfl)).mono fun e w' ⟨h1, h2⟩ => ⟨h1, 0, h2.symm⟩)
      · exact tail_big _ _ c 0 0 w hc1 hc2 (.inr rfl) (.inl rfl) (Lib.hid G) (Lib.hid fun w => (lcm_zero _ _ w (.inl rfl)).mono fun e w' ⟨h1, h2⟩ => ⟨h1, 0, h2.symm⟩)
      · omega
end Go.Proofs.Ytplbdfdpcgmcjaa
