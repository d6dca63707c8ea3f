/- Contracts of the functions of package safe: Mul (too great), Gcd, Lcm, Floor, Right. -/
import Derived.Test.YtplbdfdpcgmcjaaFn2
namespace Go.Proofs.Ytplbdfdpcgmcjaa
set_option linter.unusedVariables false
open Go.ChangeShapes Go.WideShapes Go.ChangeAt Go.RowKit

theorem mul_over (a b : Int) (w : World) (ha1 : -9223372036854775808 ≤ a) (ha2 : a ≤ 9223372036854775807) (hb1 : -9223372036854775808 ≤ b) (hb2 : b ≤ 9223372036854775807)
    (h : a * b < -9223372036854775808 ∨ 9223372036854775807 < a * b) :
    Calls Try.prog 13 #[.int .i64 a, .int .i64 b] w fun e w' => e = .returned (.tuple #[.int .i64 0, .int .i64 10]) ∧ w = w' := by
  have hn : ((a.natAbs * b.natAbs : Nat) : Int) = (a * b).natAbs := by rw [Int.natAbs_mul]
  by_cases hs : a.natAbs * b.natAbs < 18446744073709551616
  · have m64 := mul64_small a.natAbs b.natAbs (by omega) (by omega) hs
    have hsame : (a < 0 ↔ b < 0) → 9223372036854775807 < ((a.natAbs * b.natAbs : Nat) : Int) := by
      intro g
      by_cases c : a < 0
      · have := Int.mul_nonneg_of_nonpos_of_nonpos (show a ≤ 0 by omega) (show b ≤ 0 by omega)
        omega
      · have := Int.mul_nonneg (show 0 ≤ a by omega) (show 0 ≤ b by omega)
        omega
    have hother : ¬ (a < 0 ↔ b < 0) → 9223372036854775808 < ((a.natAbs * b.natAbs : Nat) : Int) := by
      intro g
      by_cases c : a < 0
      · have := Int.mul_nonpos_of_nonpos_of_nonneg (show a ≤ 0 by omega) (show 0 ≤ b by omega)
        omega
      · have := Int.mul_nonpos_of_nonneg_of_nonpos (show 0 ≤ a by omega) (show b ≤ 0 by omega)
        omega
    generalize a.natAbs * b.natAbs = p at *
    clear hn h
    have M := Lib.hid m64
    clear m64
    have arms : ∀ x y : Bool, (a < 0 ↔ x = true) → (b < 0 ↔ y = true) → decide (a < 0) = x → decide (b < 0) = y →
        Calls Try.prog 13 #[.int .i64 a, .int .i64 b] w fun e w' => e = .returned (.tuple #[.int .i64 0, .int .i64 10]) ∧ w = w' := by
      intro x y hx hy dx dy
      cases x <;> cases y
      · have e1 := hsame (by simp [hx, hy])
        clear hother hsame hx hy
        go_enter Try.func13, Try.ntmps13
        go_wp2_with (first | (go_at_call 34; refine (unsigned_any _ _ (by omega) (by omega)).mono ?_; rintro e w' ⟨rfl, rfl⟩) | (go_at_call 33; refine (M.out _).mono ?_; rintro e w' ⟨rfl, rfl⟩) | (go_at_call 35; refine (signed_over _ _ (by omega) (by omega)).mono ?_; rintro e w' ⟨rfl, rfl⟩))
        go_ret2
        exact ⟨rfl, rfl⟩
      · have e1 := hother (by simp [hx, hy])
        clear hother hsame hx hy
        go_enter Try.func13, Try.ntmps13
        go_wp2_with (first | (go_at_call 34; refine (unsigned_any _ _ (by omega) (by omega)).mono ?_; rintro e w' ⟨rfl, rfl⟩) | (go_at_call 33; refine (M.out _).mono ?_; rintro e w' ⟨rfl, rfl⟩) | (go_at_call 35; refine (signed_under _ _ (by omega) (by omega)).mono ?_; rintro e w' ⟨rfl, rfl⟩))
        go_ret2
        exact ⟨rfl, rfl⟩
      · have e1 := hother (by simp [hx, hy])
        clear hother hsame hx hy
        go_enter Try.func13, Try.ntmps13
        go_wp2_with (first | (go_at_call 34; refine (unsigned_any _ _ (by omega) (by omega)).mono ?_; rintro e w' ⟨rfl, rfl⟩) | (go_at_call 33; refine (M.out _).mono ?_; rintro e w' ⟨rfl, rfl⟩) | (go_at_call 35; refine (signed_under _ _ (by omega) (by omega)).mono ?_; rintro e w' ⟨rfl, rfl⟩))
        go_ret2
        exact ⟨rfl, rfl⟩
      · have e1 := hsame (by simp [hx, hy])
        clear hother hsame hx hy
        go_enter Try.func13, Try.ntmps13
        go_wp2_with (first | (go_at_call 34; refine (unsigned_any _ _ (by omega) (by omega)).mono ?_; rintro e w' ⟨rfl, rfl⟩) | (go_at_call 33; refine (M.out _).mono ?_; rintro e w' ⟨rfl, rfl⟩) | (go_at_call 35; refine (signed_over _ _ (by omega) (by omega)).mono ?_; rintro e w' ⟨rfl, rfl⟩))
        go_ret2
        exact ⟨rfl, rfl⟩
    exact arms (decide (a < 0)) (decide (b < 0)) (by simp) (by simp) rfl rfl
  · have m64 := mul64_big a.natAbs b.natAbs (by omega) (by omega) (by omega)
    have M := Lib.hid m64
    clear m64 hn h hs
    go_enter Try.func13, Try.ntmps13
    go_wp2_with (first | (go_at_call 34; refine (unsigned_any _ _ (by omega) (by omega)).mono ?_; rintro e w' ⟨rfl, rfl⟩) | (go_at_call 33; refine (M.out _).mono ?_; rintro e w' ⟨⟨hh, ll, hpos, rfl⟩, rfl⟩))
    go_ret2
    exact ⟨rfl, rfl⟩

theorem gcd_ok (a b : Int) (w : World) (ha1 : -9223372036854775808 ≤ a) (ha2 : a ≤ 9223372036854775807) (hb1 : -9223372036854775808 ≤ b) (hb2 : b ≤ 9223372036854775807)
    (h : Nat.gcd a.natAbs b.natAbs ≤ 9223372036854775807) :
    Calls Try.prog 17 #[.int .i64 a, .int .i64 b] w fun e w' => e = .returned (.tuple #[.int .i64 (Nat.gcd a.natAbs b.natAbs : Nat), .int .i64 0]) ∧ ∃ n, w' = w.drewN n := by
  have D := Lib.hid (divisor_any a.natAbs b.natAbs (by omega) (by omega))
  generalize Nat.gcd a.natAbs b.natAbs = g at *
  go_enter Try.func17, Try.ntmps17
  go_wp2_with (first | (go_at_call 34; refine (unsigned_any _ _ (by omega) (by omega)).mono ?_; rintro e w' ⟨rfl, rfl⟩) | (go_at_call 38; refine (D.out _).mono ?_; rintro e w' ⟨rfl, n, rfl⟩) | (go_at_call 35; refine (signed_in _ _ (by omega) (by omega)).mono ?_; rintro e w' ⟨rfl, rfl⟩))
  go_ret2
  exact ⟨rfl, _, rfl⟩

theorem gcd_over (a b : Int) (w : World) (ha1 : -9223372036854775808 ≤ a) (ha2 : a ≤ 9223372036854775807) (hb1 : -9223372036854775808 ≤ b) (hb2 : b ≤ 9223372036854775807)
    (h : 9223372036854775807 < Nat.gcd a.natAbs b.natAbs) (hm : Nat.gcd a.natAbs b.natAbs ≤ 9223372036854775808) :
    Calls Try.prog 17 #[.int .i64 a, .int .i64 b] w fun e w' => e = .returned (.tuple #[.int .i64 0, .int .i64 10]) ∧ ∃ n, w' = w.drewN n := by
  have D := Lib.hid (divisor_any a.natAbs b.natAbs (by omega) (by omega))
  generalize Nat.gcd a.natAbs b.natAbs = g at *
  go_enter Try.func17, Try.ntmps17
  go_wp2_with (first | (go_at_call 34; refine (unsigned_any _ _ (by omega) (by omega)).mono ?_; rintro e w' ⟨rfl, rfl⟩) | (go_at_call 38; refine (D.out _).mono ?_; rintro e w' ⟨rfl, n, rfl⟩) | (go_at_call 35; refine (signed_over _ _ (by omega) (by omega)).mono ?_; rintro e w' ⟨rfl, rfl⟩))
  go_ret2
  exact ⟨rfl, _, rfl⟩

def rightB (i n : Int) : Bool := i == 0 || (i == 1 || i == -1) && n == 0
theorem ret_bool {a b : Bool} (h : a = b) : Ending.returned (.bool a) = .returned (.bool b) := by rw [h]

theorem right_any (i n : Int) (w : World) :
    Calls Try.prog 26 #[.agg #[.int .i8 i, .int .i64 n]] w fun e w' => e = .returned (.bool (rightB i n)) ∧ w.alloc (.cells #[.int .i8 i, .int .i64 n] 31) = w' := by
  by_cases c0 : i = 0
  · subst c0
    go_enter Try.func26, Try.ntmps26
    go_wp2
    go_ret
    exact ⟨ret_bool (by simp [rightB]), rfl⟩
  · by_cases c1 : i = 1
    · subst c1
      go_enter Try.func26, Try.ntmps26
      go_wp2
      go_ret
      exact ⟨ret_bool (by simp [rightB]), rfl⟩
    · by_cases c2 : i = -1
      · subst c2
        go_enter Try.func26, Try.ntmps26
        go_wp2
        go_ret
        exact ⟨ret_bool (by simp [rightB]), rfl⟩
      · go_enter Try.func26, Try.ntmps26
        go_wp2
        go_ret
        exact ⟨ret_bool (by simp [rightB, c0, c1, c2]), rfl⟩
theorem right_yes (i n : Int) (w : World) (h : rightB i n = true) :
    Calls Try.prog 26 #[.agg #[.int .i8 i, .int .i64 n]] w fun e w' => e = .returned (.bool true) ∧ w.alloc (.cells #[.int .i8 i, .int .i64 n] 31) = w' := by
  have r := right_any i n w
  rw [h] at r
  exact r
theorem right_no (i n : Int) (w : World) (h : rightB i n = false) :
    Calls Try.prog 26 #[.agg #[.int .i8 i, .int .i64 n]] w fun e w' => e = .returned (.bool false) ∧ w.alloc (.cells #[.int .i8 i, .int .i64 n] 31) = w' := by
  have r := right_any i n w
  rw [h] at r
  exact r
theorem rightB_iff (i n : Int) : rightB i n = true ↔ i = 0 ∨ (i = 1 ∨ i = -1) ∧ n = 0 := by simp [rightB]

theorem sum_arg (i n j m : Int) (w : World) (h : rightB i n = false ∨ rightB j m = false) :
    Calls Try.prog 22 #[.agg #[.int .i8 i, .int .i64 n], .agg #[.int .i8 j, .int .i64 m]] w fun e w' => e = .returned (.tuple #[.agg #[.int .i8 0, .int .i64 0], .int .i64 2]) ∧ Below w.heap.size w w' := by
  by_cases r : rightB i n = false
  · have R := Lib.hid r
    clear r h
    go_enter Try.func22, Try.ntmps22
    go_wp2_with (first | (go_at_call 26; (with_reducible refine (right_no _ _ _ R.out).mono ?_); rintro e w' ⟨rfl, rfl⟩))
    go_returns
    exact ⟨rfl, by go_grown⟩
  · have R := Lib.hid (show rightB i n = true by simpa using r)
    have R2 := Lib.hid (h.resolve_left r)
    clear r h
    go_enter Try.func22, Try.ntmps22
    go_wp2_with (first | (go_at_call 26; (with_reducible refine (right_yes _ _ _ R.out).mono ?_); rintro e w' ⟨rfl, rfl⟩) | (go_at_call 26; (with_reducible refine (right_no _ _ _ R2.out).mono ?_); rintro e w' ⟨rfl, rfl⟩))
    go_returns
    exact ⟨rfl, by go_grown⟩

theorem sum_zz_ok (n m : Int) (w : World) (hn1 : -9223372036854775808 ≤ n) (hn2 : n ≤ 9223372036854775807) (hm1 : -9223372036854775808 ≤ m) (hm2 : m ≤ 9223372036854775807) (h1 : -9223372036854775808 ≤ n + m) (h2 : n + m ≤ 9223372036854775807) :
    Calls Try.prog 22 #[.agg #[.int .i8 0, .int .i64 n], .agg #[.int .i8 0, .int .i64 m]] w fun e w' => e = .returned (.tuple #[.agg #[.int .i8 0, .int .i64 (n + m)], .int .i64 0]) ∧ Below w.heap.size w w' := by
  have R := Lib.hid (show rightB 0 n = true by simp [rightB])
  have R2 := Lib.hid (show rightB 0 m = true by simp [rightB])
  go_enter Try.func22, Try.ntmps22
  go_wp2_with (first | (go_at_call 26; (with_reducible refine (right_yes _ _ _ (by first | exact R.out | exact R2.out)).mono ?_); rintro e w' ⟨rfl, rfl⟩) | (go_at_call 9; (with_reducible refine (add_ok _ _ _ (by omega) (by omega) (by omega) (by omega) (by omega) (by omega)).mono ?_); rintro e w' ⟨rfl, rfl⟩))
  go_returns
  exact ⟨rfl, by go_grown⟩

theorem sum_zz_over (n m : Int) (w : World) (hn1 : -9223372036854775808 ≤ n) (hn2 : n ≤ 9223372036854775807) (hm1 : -9223372036854775808 ≤ m) (hm2 : m ≤ 9223372036854775807) (h : n + m < -9223372036854775808 ∨ 9223372036854775807 < n + m) :
    Calls Try.prog 22 #[.agg #[.int .i8 0, .int .i64 n], .agg #[.int .i8 0, .int .i64 m]] w fun e w' => e = .returned (.tuple #[.agg #[.int .i8 0, .int .i64 0], .int .i64 10]) ∧ Below w.heap.size w w' := by
  have R := Lib.hid (show rightB 0 n = true by simp [rightB])
  have R2 := Lib.hid (show rightB 0 m = true by simp [rightB])
  have H := Lib.hid h
  clear h
  go_enter Try.func22, Try.ntmps22
  go_wp2_with (first | (go_at_call 26; (with_reducible refine (right_yes _ _ _ (by first | exact R.out | exact R2.out)).mono ?_); rintro e w' ⟨rfl, rfl⟩) | (go_at_call 9; (with_reducible refine (add_over _ _ _ (by omega) (by omega) (by omega) (by omega) H.out).mono ?_); rintro e w' ⟨rfl, rfl⟩))
  go_returns
  exact ⟨rfl, by go_grown⟩

theorem sum_zp (n : Int) (w : World) :
    Calls Try.prog 22 #[.agg #[.int .i8 0, .int .i64 n], .agg #[.int .i8 1, .int .i64 0]] w fun e w' => e = .returned (.tuple #[.agg #[.int .i8 1, .int .i64 0], .int .i64 0]) ∧ Below w.heap.size w w' := by
  have R := Lib.hid (show rightB 0 n = true by simp [rightB])
  have R2 := Lib.hid (show rightB 1 0 = true by simp [rightB])
  go_enter Try.func22, Try.ntmps22
  go_wp2_with (first | (go_at_call 26; (with_reducible refine (right_yes _ _ _ (by first | exact R.out | exact R2.out)).mono ?_); rintro e w' ⟨rfl, rfl⟩))
  go_returns
  exact ⟨rfl, by go_grown⟩

theorem sum_zm (n : Int) (w : World) :
    Calls Try.prog 22 #[.agg #[.int .i8 0, .int .i64 n], .agg #[.int .i8 (-1), .int .i64 0]] w fun e w' => e = .returned (.tuple #[.agg #[.int .i8 (-1), .int .i64 0], .int .i64 0]) ∧ Below w.heap.size w w' := by
  have R := Lib.hid (show rightB 0 n = true by simp [rightB])
  have R2 := Lib.hid (show rightB (-1) 0 = true by simp [rightB])
  go_enter Try.func22, Try.ntmps22
  go_wp2_with (first | (go_at_call 26; (with_reducible refine (right_yes _ _ _ (by first | exact R.out | exact R2.out)).mono ?_); rintro e w' ⟨rfl, rfl⟩))
  go_returns
  exact ⟨rfl, by go_grown⟩

theorem sum_pz (m : Int) (w : World) :
    Calls Try.prog 22 #[.agg #[.int .i8 1, .int .i64 0], .agg #[.int .i8 0, .int .i64 m]] w fun e w' => e = .returned (.tuple #[.agg #[.int .i8 1, .int .i64 0], .int .i64 0]) ∧ Below w.heap.size w w' := by
  have R := Lib.hid (show rightB 1 0 = true by simp [rightB])
  have R2 := Lib.hid (show rightB 0 m = true by simp [rightB])
  go_enter Try.func22, Try.ntmps22
  go_wp2_with (first | (go_at_call 26; (with_reducible refine (right_yes _ _ _ (by first | exact R.out | exact R2.out)).mono ?_); rintro e w' ⟨rfl, rfl⟩))
  go_returns
  exact ⟨rfl, by go_grown⟩

theorem sum_pp (w : World) :
    Calls Try.prog 22 #[.agg #[.int .i8 1, .int .i64 0], .agg #[.int .i8 1, .int .i64 0]] w fun e w' => e = .returned (.tuple #[.agg #[.int .i8 1, .int .i64 0], .int .i64 0]) ∧ Below w.heap.size w w' := by
  have R := Lib.hid (show rightB 1 0 = true by simp [rightB])
  have R2 := Lib.hid (show rightB 1 0 = true by simp [rightB])
  go_enter Try.func22, Try.ntmps22
  go_wp2_with (first | (go_at_call 26; (with_reducible refine (right_yes _ _ _ (by first | exact R.out | exact R2.out)).mono ?_); rintro e w' ⟨rfl, rfl⟩))
  go_returns
  exact ⟨rfl, by go_grown⟩

theorem sum_pm (w : World) :
    Calls Try.prog 22 #[.agg #[.int .i8 1, .int .i64 0], .agg #[.int .i8 (-1), .int .i64 0]] w fun e w' => e = .returned (.tuple #[.agg #[.int .i8 0, .int .i64 0], .int .i64 10]) ∧ Below w.heap.size w w' := by
  have R := Lib.hid (show rightB 1 0 = true by simp [rightB])
  have R2 := Lib.hid (show rightB (-1) 0 = true by simp [rightB])
  go_enter Try.func22, Try.ntmps22
  go_wp2_with (first | (go_at_call 26; (with_reducible refine (right_yes _ _ _ (by first | exact R.out | exact R2.out)).mono ?_); rintro e w' ⟨rfl, rfl⟩))
  go_returns
  exact ⟨rfl, by go_grown⟩

theorem sum_mz (m : Int) (w : World) :
    Calls Try.prog 22 #[.agg #[.int .i8 (-1), .int .i64 0], .agg #[.int .i8 0, .int .i64 m]] w fun e w' => e = .returned (.tuple #[.agg #[.int .i8 (-1), .int .i64 0], .int .i64 0]) ∧ Below w.heap.size w w' := by
  have R := Lib.hid (show rightB (-1) 0 = true by simp [rightB])
  have R2 := Lib.hid (show rightB 0 m = true by simp [rightB])
  go_enter Try.func22, Try.ntmps22
  go_wp2_with (first | (go_at_call 26; (with_reducible refine (right_yes _ _ _ (by first | exact R.out | exact R2.out)).mono ?_); rintro e w' ⟨rfl, rfl⟩))
  go_returns
  exact ⟨rfl, by go_grown⟩

theorem sum_mp (w : World) :
    Calls Try.prog 22 #[.agg #[.int .i8 (-1), .int .i64 0], .agg #[.int .i8 1, .int .i64 0]] w fun e w' => e = .returned (.tuple #[.agg #[.int .i8 0, .int .i64 0], .int .i64 10]) ∧ Below w.heap.size w w' := by
  have R := Lib.hid (show rightB (-1) 0 = true by simp [rightB])
  have R2 := Lib.hid (show rightB 1 0 = true by simp [rightB])
  go_enter Try.func22, Try.ntmps22
  go_wp2_with (first | (go_at_call 26; (with_reducible refine (right_yes _ _ _ (by first | exact R.out | exact R2.out)).mono ?_); rintro e w' ⟨rfl, rfl⟩))
  go_returns
  exact ⟨rfl, by go_grown⟩

theorem sum_mm (w : World) :
    Calls Try.prog 22 #[.agg #[.int .i8 (-1), .int .i64 0], .agg #[.int .i8 (-1), .int .i64 0]] w fun e w' => e = .returned (.tuple #[.agg #[.int .i8 (-1), .int .i64 0], .int .i64 0]) ∧ Below w.heap.size w w' := by
  have R := Lib.hid (show rightB (-1) 0 = true by simp [rightB])
  have R2 := Lib.hid (show rightB (-1) 0 = true by simp [rightB])
  go_enter Try.func22, Try.ntmps22
  go_wp2_with (first | (go_at_call 26; (with_reducible refine (right_yes _ _ _ (by first | exact R.out | exact R2.out)).mono ?_); rintro e w' ⟨rfl, rfl⟩))
  go_returns
  exact ⟨rfl, by go_grown⟩

theorem minus_arg (i n : Int) (w : World) (h : rightB i n = false) :
    Calls Try.prog 24 #[.agg #[.int .i8 i, .int .i64 n]] w fun e w' => e = .returned (.tuple #[.agg #[.int .i8 0, .int .i64 0], .int .i64 2]) ∧ Below w.heap.size w w' := by
  have R := Lib.hid h
  clear h
  go_enter Try.func24, Try.ntmps24
  go_wp2_with (first | (go_at_call 26; (with_reducible refine (right_no _ _ _ R.out).mono ?_); rintro e w' ⟨rfl, rfl⟩))
  go_returns
  exact ⟨rfl, by go_grown⟩

theorem minus_ok (i n : Int) (w : World) (h : rightB i n = true) (hi1 : -1 ≤ i) (hi2 : i ≤ 1) (hn1 : -9223372036854775807 ≤ n) (hn2 : n ≤ 9223372036854775807) :
    Calls Try.prog 24 #[.agg #[.int .i8 i, .int .i64 n]] w fun e w' => e = .returned (.tuple #[.agg #[.int .i8 (-i), .int .i64 (-n)], .int .i64 0]) ∧ Below w.heap.size w w' := by
  have R := Lib.hid h
  clear h
  go_enter Try.func24, Try.ntmps24
  go_wp2_with (first | (go_at_call 26; (with_reducible refine (right_yes _ _ _ R.out).mono ?_); rintro e w' ⟨rfl, rfl⟩) | (go_at_call 11; (with_reducible refine (sub_ok _ _ _ (by omega) (by omega) (by omega) (by omega) (by omega) (by omega)).mono ?_); rintro e w' ⟨rfl, rfl⟩))
  go_returns
  exact ⟨by simp, by go_grown⟩

theorem minus_over (i : Int) (w : World) (h : rightB i (-9223372036854775808) = true) :
    Calls Try.prog 24 #[.agg #[.int .i8 i, .int .i64 (-9223372036854775808)]] w fun e w' => e = .returned (.tuple #[.agg #[.int .i8 0, .int .i64 0], .int .i64 10]) ∧ Below w.heap.size w w' := by
  have R := Lib.hid h
  clear h
  go_enter Try.func24, Try.ntmps24
  go_wp2_with (first | (go_at_call 26; (with_reducible refine (right_yes _ _ _ R.out).mono ?_); rintro e w' ⟨rfl, rfl⟩) | (go_at_call 11; (with_reducible refine (sub_over _ _ _ (by omega) (by omega) (by omega) (by omega) (by omega)).mono ?_); rintro e w' ⟨rfl, rfl⟩))
  go_returns
  exact ⟨rfl, by go_grown⟩

def lessB (i n j m : Int) : Bool := rightB i n && rightB j m && (if i = j then decide (n < m) else decide (i < j))
theorem less_any (i n j m : Int) (w : World) :
    Calls Try.prog 28 #[.agg #[.int .i8 i, .int .i64 n], .agg #[.int .i8 j, .int .i64 m]] w fun e w' => e = .returned (.bool (lessB i n j m)) ∧ Below w.heap.size w w' := by
  by_cases r : rightB i n = false
  · have HL := Lib.hid (show lessB i n j m = false by simp [lessB, r])
    have R := Lib.hid r
    clear r
    go_enter Try.func28, Try.ntmps28
    go_wp2_with (first | (go_at_call 26; (with_reducible refine (right_no _ _ _ R.out).mono ?_); rintro e w' ⟨rfl, rfl⟩))
    go_returns
    exact ⟨ret_bool HL.out.symm, by go_grown⟩
  · by_cases r2 : rightB j m = false
    · have HL := Lib.hid (show lessB i n j m = false by simp [lessB, r2])
      have R := Lib.hid (show rightB i n = true by simpa using r)
      have R2 := Lib.hid r2
      clear r r2
      go_enter Try.func28, Try.ntmps28
      go_wp2_with (first | (go_at_call 26; (with_reducible refine (right_yes _ _ _ R.out).mono ?_); rintro e w' ⟨rfl, rfl⟩) | (go_at_call 26; (with_reducible refine (right_no _ _ _ R2.out).mono ?_); rintro e w' ⟨rfl, rfl⟩))
      go_returns
      exact ⟨ret_bool HL.out.symm, by go_grown⟩
    · have R := Lib.hid (show rightB i n = true by simpa using r)
      have R2 := Lib.hid (show rightB j m = true by simpa using r2)
      by_cases c : i = j
      · subst c
        have HL := Lib.hid (show lessB i n i m = decide (n < m) by simp [lessB, r, r2])
        clear r r2
        go_enter Try.func28, Try.ntmps28
        go_wp2_with (first | (go_at_call 26; (with_reducible refine (right_yes _ _ _ (by first | exact R.out | exact R2.out)).mono ?_); rintro e w' ⟨rfl, rfl⟩))
        go_returns
        exact ⟨ret_bool HL.out.symm, by go_grown⟩
      · have HL := Lib.hid (show lessB i n j m = decide (i < j) by simp [lessB, r, r2, c])
        clear r r2
        go_enter Try.func28, Try.ntmps28
        go_wp2_with (first | (go_at_call 26; (with_reducible refine (right_yes _ _ _ (by first | exact R.out | exact R2.out)).mono ?_); rintro e w' ⟨rfl, rfl⟩))
        go_returns
        exact ⟨ret_bool HL.out.symm, by go_grown⟩
end Go.Proofs.Ytplbdfdpcgmcjaa
