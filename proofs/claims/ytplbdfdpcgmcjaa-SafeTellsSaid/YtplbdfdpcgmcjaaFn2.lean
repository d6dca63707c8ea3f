/- Contracts of the functions of package safe: divisor, Mul, Floor. -/
import Derived.Test.YtplbdfdpcgmcjaaFn
namespace Go.Proofs.Ytplbdfdpcgmcjaa
set_option linter.unusedVariables false
open Go.ChangeShapes Go.WideShapes Go.ChangeAt Go.RowKit

theorem mul_ok (a b : Int) (w : World) (ha1 : -9223372036854775808 ≤ a) (ha2 : a ≤ 9223372036854775807) (hb1 : -9223372036854775808 ≤ b) (hb2 : b ≤ 9223372036854775807)
    (h1 : -9223372036854775808 ≤ a * b) (h2 : a * b ≤ 9223372036854775807) :
    Calls Try.prog 13 #[.int .i64 a, .int .i64 b] w fun e w' => e = .returned (.tuple #[.int .i64 (a * b), .int .i64 0]) ∧ w = w' := by
  have hn : ((a.natAbs * b.natAbs : Nat) : Int) = (a * b).natAbs := by rw [Int.natAbs_mul]
  have hs : a.natAbs * b.natAbs < 18446744073709551616 := by omega
  have m64 := mul64_small a.natAbs b.natAbs (by omega) (by omega) hs
  have hsame : (a < 0 ↔ b < 0) → ((a.natAbs * b.natAbs : Nat) : Int) = a * b := by
    intro h
    by_cases c : a < 0
    · have := Int.mul_nonneg_of_nonpos_of_nonpos (show a ≤ 0 by omega) (show b ≤ 0 by omega)
      omega
    · have := Int.mul_nonneg (show 0 ≤ a by omega) (show 0 ≤ b by omega)
      omega
  have hother : ¬ (a < 0 ↔ b < 0) → -((a.natAbs * b.natAbs : Nat) : Int) = a * b := by
    intro h
    by_cases c : a < 0
    · have := Int.mul_nonpos_of_nonpos_of_nonneg (show a ≤ 0 by omega) (show 0 ≤ b by omega)
      omega
    · have := Int.mul_nonpos_of_nonneg_of_nonpos (show 0 ≤ a by omega) (show b ≤ 0 by omega)
      omega
  generalize a.natAbs * b.natAbs = p at *
  generalize a * b = ab at *
  have M := Lib.hid m64
  clear m64
  have arms : ∀ x y : Bool, (a < 0 ↔ x = true) → (b < 0 ↔ y = true) → decide (a < 0) = x → decide (b < 0) = y →
      Calls Try.prog 13 #[.int .i64 a, .int .i64 b] w fun e w' => e = .returned (.tuple #[.int .i64 ab, .int .i64 0]) ∧ w = w' := by
    intro x y hx hy dx dy
    cases x <;> cases y
    · have e1 := hsame (by simp [hx, hy])
      subst e1
      clear hn hother hsame hx hy
      go_enter Try.func13, Try.ntmps13
      go_wp2_with (first | (go_at_call 34; refine (unsigned_any _ _ (by omega) (by omega)).mono ?_; rintro e w' ⟨rfl, rfl⟩) | (go_at_call 33; refine (M.out _).mono ?_; rintro e w' ⟨rfl, rfl⟩) | (go_at_call 35; refine (signed_in _ _ (by omega) (by omega)).mono ?_; rintro e w' ⟨rfl, rfl⟩))
      go_ret2
      exact ⟨rfl, rfl⟩
    · have e1 := hother (by simp [hx, hy])
      subst e1
      clear hn hother hsame hx hy
      go_enter Try.func13, Try.ntmps13
      go_wp2_with (first | (go_at_call 34; refine (unsigned_any _ _ (by omega) (by omega)).mono ?_; rintro e w' ⟨rfl, rfl⟩) | (go_at_call 33; refine (M.out _).mono ?_; rintro e w' ⟨rfl, rfl⟩) | (go_at_call 35; refine (signed_neg _ _ (by omega) (by omega)).mono ?_; rintro e w' ⟨rfl, rfl⟩))
      go_ret2
      exact ⟨rfl, rfl⟩
    · have e1 := hother (by simp [hx, hy])
      subst e1
      clear hn hother hsame hx hy
      go_enter Try.func13, Try.ntmps13
      go_wp2_with (first | (go_at_call 34; refine (unsigned_any _ _ (by omega) (by omega)).mono ?_; rintro e w' ⟨rfl, rfl⟩) | (go_at_call 33; refine (M.out _).mono ?_; rintro e w' ⟨rfl, rfl⟩) | (go_at_call 35; refine (signed_neg _ _ (by omega) (by omega)).mono ?_; rintro e w' ⟨rfl, rfl⟩))
      go_ret2
      exact ⟨rfl, rfl⟩
    · have e1 := hsame (by simp [hx, hy])
      subst e1
      clear hn hother hsame hx hy
      go_enter Try.func13, Try.ntmps13
      go_wp2_with (first | (go_at_call 34; refine (unsigned_any _ _ (by omega) (by omega)).mono ?_; rintro e w' ⟨rfl, rfl⟩) | (go_at_call 33; refine (M.out _).mono ?_; rintro e w' ⟨rfl, rfl⟩) | (go_at_call 35; refine (signed_in _ _ (by omega) (by omega)).mono ?_; rintro e w' ⟨rfl, rfl⟩))
      go_ret2
      exact ⟨rfl, rfl⟩
  exact arms (decide (a < 0)) (decide (b < 0)) (by simp) (by simp) rfl rfl

theorem drewN_drewN (w : World) (n m : Nat) : (w.drewN n).drewN m = w.drewN (n + m) := by simp [World.drewN, Nat.add_assoc]

theorem divisor_any (x y : Nat) (hx : x < 18446744073709551616) (hy : y < 18446744073709551616) (w : World) :
    Calls Try.prog 38 #[.int .u64 x, .int .u64 y] w fun e w' => e = .returned (.int .u64 (Nat.gcd x y : Nat)) ∧ ∃ n, w' = w.drewN n := by
  go_enter Try.func38, Try.ntmps38
  go_wp2
  refine wp_scope_jumps 0 (fun a' w' => (∃ n, w' = w.drewN n) ∧ ∃ (p q : Nat) (u5 u6 u7 u8 u9 u10 u11 : Value), a' = { tmps := #[.int .u64 p, .int .u64 q, undef, undef, .int .u64 0, u5, u6, u7, u8, u9, u10, u11], defers := [] } ∧ Nat.gcd p q = Nat.gcd x y ∧ q < 18446744073709551616 ∧ p < 18446744073709551616) (fun a' _ => (intOf (a'.tmps.getD 1 undef)).toNat) rfl ?_ ?_
  · by_cases h0 : y = 0
    · subst h0
      go_wp2
      go_step3
      go_wp2
      simp only [Exit.jump]
      go_ret
      exact ⟨ret_int (by simp), 0, rfl⟩
    · have h1 : (1 : Int) ≤ (y : Int) := by omega
      have hm := Nat.mod_lt x (show 0 < y by omega)
      have hg : Nat.gcd y (x % y) = Nat.gcd x y := by rw [Nat.gcd_comm y, ← Nat.gcd_rec, Nat.gcd_comm]
      have HG := Lib.hid hg
      clear hg
      go_wp2
      go_step3
      go_wp2
      go_quiet (fail)
      go_wp2
      go_step3
      exact ⟨rfl, ⟨_, rfl⟩, y, x % y, _, _, _, _, _, _, _, rfl, HG.out, by omega, by omega⟩
  · rintro a' w' ⟨⟨n, rfl⟩, p, q, u5, u6, u7, u8, u9, u10, u11, rfl, hg0, hq, hp⟩
    have HG0 := Lib.hid hg0
    clear hg0
    by_cases h0 : q = 0
    · subst h0
      go_wp2
      simp only [Exit.jump]
      go_ret
      exact ⟨ret_int (by rw [← HG0.out]; simp), n, rfl⟩
    · have h1 : (1 : Int) ≤ (q : Int) := by omega
      have hm := Nat.mod_lt p (show 0 < q by omega)
      have hg : Nat.gcd q (p % q) = Nat.gcd p q := by rw [Nat.gcd_comm q, ← Nat.gcd_rec, Nat.gcd_comm]
      have HG := Lib.hid hg
      clear hg
      go_wp2
      go_quiet (fail)
      go_wp2
      go_step3
      exact ⟨rfl, ⟨⟨_, drewN_drewN _ _ _⟩, q, p % q, _, _, _, _, _, _, _, rfl, HG.out.trans HG0.out, by omega, by omega⟩, by simp [intOf]; omega⟩
end Go.Proofs.Ytplbdfdpcgmcjaa
