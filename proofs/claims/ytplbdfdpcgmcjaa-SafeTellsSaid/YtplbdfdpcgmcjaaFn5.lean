/- Contracts of the functions of package safe: Floor whole, Lcm; the chapter's examples. -/
import Derived.Test.YtplbdfdpcgmcjaaFn4
namespace Go.Proofs.Ytplbdfdpcgmcjaa
set_option linter.unusedVariables false
open Go.ChangeShapes Go.WideShapes Go.ChangeAt Go.RowKit

theorem floor_ok (a b : Int) (w : World) (ha1 : -9223372036854775808 ≤ a) (ha2 : a ≤ 9223372036854775807) (hb1 : -9223372036854775808 ≤ b) (hb2 : b ≤ 9223372036854775807)
    (h0 : b ≠ 0) (hno : ¬ (a = -9223372036854775808 ∧ b = -1)) :
    Calls Try.prog 15 #[.int .i64 a, .int .i64 b] w fun e w' => e = .returned (.tuple #[.int .i64 (a.fdiv b), .int .i64 (a.fmod b), .int .i64 0]) ∧ ∃ n, w' = w.drewN n := by
  by_cases h : 0 ≤ a ∧ 1 ≤ b
  · exact floor_pos a b w h.1 ha2 h.2 hb2
  · exact floor_gen a b w ha1 ha2 hb1 hb2 h0 hno (by omega)

theorem lcm_zero (a b : Int) (w : World) (h : a = 0 ∨ b = 0) :
    Calls Try.prog 19 #[.int .i64 a, .int .i64 b] w fun e w' => e = .returned (.tuple #[.int .i64 0, .int .i64 0]) ∧ w = w' := by
  by_cases c : a = 0
  · subst c
    go_enter Try.func19, Try.ntmps19
    go_wp2
    go_returns
    exact ⟨rfl, rfl⟩
  · have hb := h.resolve_left c
    subst hb
    have d : (a == 0) = false := by simpa using c
    clear h
    go_enter Try.func19, Try.ntmps19
    go_wp2
    go_returns
    exact ⟨rfl, rfl⟩

/-- The least common multiple as it is reckoned. -/
def lcmN (a b : Int) : Nat := a.natAbs / Nat.gcd a.natAbs b.natAbs * b.natAbs

theorem lcm_ok (a b : Int) (w : World) (ha1 : -9223372036854775808 ≤ a) (ha2 : a ≤ 9223372036854775807) (hb1 : -9223372036854775808 ≤ b) (hb2 : b ≤ 9223372036854775807)
    (ha : a ≠ 0) (hb : b ≠ 0) (h : lcmN a b ≤ 9223372036854775807) :
    Calls Try.prog 19 #[.int .i64 a, .int .i64 b] w fun e w' => e = .returned (.tuple #[.int .i64 (lcmN a b : Nat), .int .i64 0]) ∧ ∃ n, w' = w.drewN n := by
  have D := Lib.hid (divisor_any a.natAbs b.natAbs (by omega) (by omega))
  have hg : 1 ≤ Nat.gcd a.natAbs b.natAbs := Nat.gcd_pos_of_pos_left _ (by omega)
  have hq : a.natAbs / Nat.gcd a.natAbs b.natAbs ≤ a.natAbs := Nat.div_le_self _ _
  have hq1 : (0 : Int) ≤ (a.natAbs : Int) / (Nat.gcd a.natAbs b.natAbs : Nat) := by rw [← Int.natCast_ediv]; exact Int.natCast_nonneg _
  have hq2 : (a.natAbs : Int) / (Nat.gcd a.natAbs b.natAbs : Nat) ≤ 9223372036854775808 := by rw [← Int.natCast_ediv]; exact Int.le_trans (Int.ofNat_le.2 hq) (by omega)
  have M : ∀ w, Calls Try.prog 33 #[.int .u64 ((a.natAbs : Int) / (Nat.gcd a.natAbs b.natAbs : Nat)), .int .u64 b.natAbs] w fun e w' => e = .returned (.tuple #[.int .u64 0, .int .u64 (lcmN a b : Nat)]) ∧ w = w' := by
    intro w
    rw [← Int.natCast_ediv]
    exact mul64_small _ _ (by omega) (by omega) (by unfold lcmN at h; omega) w
  have M' := Lib.hid M
  clear M
  generalize lcmN a b = l at *
  generalize Nat.gcd a.natAbs b.natAbs = g at *
  have d1 : (a == 0) = false := by simpa using ha
  have d2 : (b == 0) = false := by simpa using hb
  go_enter Try.func19, Try.ntmps19
  go_wp2_with (first | (go_at_call 34; (with_reducible refine (unsigned_any _ _ (by omega) (by omega)).mono ?_); rintro e w' ⟨rfl, rfl⟩) | (go_at_call 38; (with_reducible refine (D.out _).mono ?_); rintro e w' ⟨rfl, n, rfl⟩) | (go_at_call 33; (with_reducible refine (M'.out _).mono ?_); rintro e w' ⟨rfl, rfl⟩) | (go_at_call 35; (with_reducible refine (signed_in _ _ (by omega) (by omega)).mono ?_); rintro e w' ⟨rfl, rfl⟩))
  go_returns
  exact ⟨rfl, _, rfl⟩

theorem lcm_over (a b : Int) (w : World) (ha1 : -9223372036854775808 ≤ a) (ha2 : a ≤ 9223372036854775807) (hb1 : -9223372036854775808 ≤ b) (hb2 : b ≤ 9223372036854775807)
    (ha : a ≠ 0) (hb : b ≠ 0) (h : 9223372036854775807 < lcmN a b) :
    Calls Try.prog 19 #[.int .i64 a, .int .i64 b] w fun e w' => e = .returned (.tuple #[.int .i64 0, .int .i64 10]) ∧ ∃ n, w' = w.drewN n := by
  have D := Lib.hid (divisor_any a.natAbs b.natAbs (by omega) (by omega))
  have hg : 1 ≤ Nat.gcd a.natAbs b.natAbs := Nat.gcd_pos_of_pos_left _ (by omega)
  have hq : a.natAbs / Nat.gcd a.natAbs b.natAbs ≤ a.natAbs := Nat.div_le_self _ _
  have hq1 : (0 : Int) ≤ (a.natAbs : Int) / (Nat.gcd a.natAbs b.natAbs : Nat) := by rw [← Int.natCast_ediv]; exact Int.natCast_nonneg _
  have hq2 : (a.natAbs : Int) / (Nat.gcd a.natAbs b.natAbs : Nat) ≤ 9223372036854775808 := by rw [← Int.natCast_ediv]; exact Int.le_trans (Int.ofNat_le.2 hq) (by omega)
  have d1 : (a == 0) = false := by simpa using ha
  have d2 : (b == 0) = false := by simpa using hb
  by_cases hs : lcmN a b < 18446744073709551616
  · have M : ∀ w, Calls Try.prog 33 #[.int .u64 ((a.natAbs : Int) / (Nat.gcd a.natAbs b.natAbs : Nat)), .int .u64 b.natAbs] w fun e w' => e = .returned (.tuple #[.int .u64 0, .int .u64 (lcmN a b : Nat)]) ∧ w = w' := by
      intro w
      rw [← Int.natCast_ediv]
      exact mul64_small _ _ (by omega) (by omega) (by unfold lcmN at hs; omega) w
    have M' := Lib.hid M
    clear M
    generalize lcmN a b = l at *
    generalize Nat.gcd a.natAbs b.natAbs = g at *
    go_enter Try.func19, Try.ntmps19
    go_wp2_with (first | (go_at_call 34; (with_reducible refine (unsigned_any _ _ (by omega) (by omega)).mono ?_); rintro e w' ⟨rfl, rfl⟩) | (go_at_call 38; (with_reducible refine (D.out _).mono ?_); rintro e w' ⟨rfl, n, rfl⟩) | (go_at_call 33; (with_reducible refine (M'.out _).mono ?_); rintro e w' ⟨rfl, rfl⟩) | (go_at_call 35; (with_reducible refine (signed_over _ _ (by omega) (by omega)).mono ?_); rintro e w' ⟨rfl, rfl⟩))
    go_returns
    exact ⟨rfl, _, rfl⟩
  · have M : ∀ w, Calls Try.prog 33 #[.int .u64 ((a.natAbs : Int) / (Nat.gcd a.natAbs b.natAbs : Nat)), .int .u64 b.natAbs] w fun e w' => (∃ h l : Int, 0 < h ∧ e = .returned (.tuple #[.int .u64 h, .int .u64 l])) ∧ w = w' := by
      intro w
      rw [← Int.natCast_ediv]
      exact mul64_big _ _ (by omega) (by omega) (by unfold lcmN at hs; omega) w
    have M' := Lib.hid M
    clear M
    generalize lcmN a b = l at *
    generalize Nat.gcd a.natAbs b.natAbs = g at *
    go_enter Try.func19, Try.ntmps19
    go_wp2_with (first | (go_at_call 34; (with_reducible refine (unsigned_any _ _ (by omega) (by omega)).mono ?_); rintro e w' ⟨rfl, rfl⟩) | (go_at_call 38; (with_reducible refine (D.out _).mono ?_); rintro e w' ⟨rfl, n, rfl⟩) | (go_at_call 33; (with_reducible refine (M'.out _).mono ?_); rintro e w' ⟨⟨hh, ll, hpos, rfl⟩, rfl⟩))
    go_returns
    exact ⟨rfl, _, rfl⟩
end Go.Proofs.Ytplbdfdpcgmcjaa
