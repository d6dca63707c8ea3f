/- Ported: contracts of package spans. -/
import Derived.Test.YtacpcokmgahjaaaDoorSp1
import Derived.BigQuiet
import Derived.Deep.DeepFit
import Derived.Deep.QuietTactic
import Derived.Handy
import Derived.Laws.Bits64b
import Derived.Lib.Hide
import Derived.Lib.Mul64
import Derived.OpenShut
import Derived.Outline
import Derived.ProofKit
import Derived.ScopeJumps
import Derived.WalkKit
import Derived.WalkMore
namespace Go.Proofs.YtacpcokmgahjaaaDoor
set_option linter.unusedVariables false
set_option linter.unusedSimpArgs false
open Go.ChangeShapes Go.WideShapes Go.ChangeAt Go.RowKit
theorem ret_int2 {k l : IntKind} {a b c d : Int} (h : a = b) (h' : c = d) : Ending.returned (.tuple #[.int k a, .int l c]) = .returned (.tuple #[.int k b, .int l d]) := by rw [h, h']
theorem ret_int3 {k l m : IntKind} {a b c d f g : Int} (h : a = b) (h' : c = d) (h'' : f = g) : Ending.returned (.tuple #[.int k a, .int l c, .int m f]) = .returned (.tuple #[.int k b, .int l d, .int m g]) := by rw [h, h', h'']
theorem unsigned_any (a : Int) (w : World) (h1 : -9223372036854775808 ≤ a) (h2 : a ≤ 9223372036854775807) :
    Calls Tryd.prog 95 #[.int .i64 a] w fun e w' => e = .returned (.int .u64 a.natAbs) ∧ w = w' := by
  by_cases h3 : a < 0
  · go_enter Tryd.func95, Tryd.ntmps95
    go_wp2
    go_ret
    exact ⟨ret_int (by rw [IntKind.wrap_u64, IntKind.wrap_u64]; omega), rfl⟩
  · go_enter Tryd.func95, Tryd.ntmps95
    go_wp2
    go_ret
    exact ⟨ret_int (by omega), rfl⟩
theorem signed_in (n : Int) (w : World) (h1 : 0 ≤ n) (h2 : n ≤ 9223372036854775807) :
    Calls Tryd.prog 96 #[.int .u64 n, .bool false] w fun e w' => e = .returned (.tuple #[.int .i64 n, .int .i64 0]) ∧ w = w' := by
  go_enter Tryd.func96, Tryd.ntmps96
  go_wp2
  go_ret2
  exact ⟨rfl, rfl⟩
theorem signed_over (n : Int) (w : World) (h1 : 9223372036854775807 < n) (h2 : n ≤ 18446744073709551615) :
    Calls Tryd.prog 96 #[.int .u64 n, .bool false] w fun e w' => e = .returned (.tuple #[.int .i64 0, .int .i64 10]) ∧ w = w' := by
  go_enter Tryd.func96, Tryd.ntmps96
  go_wp2
  go_ret2
  exact ⟨rfl, rfl⟩
theorem signed_under (n : Int) (w : World) (h1 : 9223372036854775808 < n) (h2 : n ≤ 18446744073709551615) :
    Calls Tryd.prog 96 #[.int .u64 n, .bool true] w fun e w' => e = .returned (.tuple #[.int .i64 0, .int .i64 10]) ∧ w = w' := by
  go_enter Tryd.func96, Tryd.ntmps96
  go_wp2
  go_ret2
  exact ⟨rfl, rfl⟩
theorem signed_neg (n : Int) (w : World) (h1 : 0 ≤ n) (h2 : n ≤ 9223372036854775808) :
    Calls Tryd.prog 96 #[.int .u64 n, .bool true] w fun e w' => e = .returned (.tuple #[.int .i64 (-n), .int .i64 0]) ∧ w = w' := by
  go_enter Tryd.func96, Tryd.ntmps96
  go_wp2
  go_ret2
  exact ⟨ret_int2 (by rw [IntKind.wrap_u64]; unfold wrap64; omega) rfl, rfl⟩
namespace Mul
theorem maskN (a : Nat) (ha : a < 18446744073709551616) : bits .and .u64 (a : Int) 4294967295 = ((a % 4294967296 : Nat) : Int) := by
  have h := bits_and_u64_nat a 4294967295 ha (by omega)
  have e : a &&& 4294967295 = a % 4294967296 := Nat.and_two_pow_sub_one_eq_mod a 32
  rw [e] at h
  exact h
theorem divN (a : Nat) : (a : Int) / 4294967296 = ((a / 4294967296 : Nat) : Int) := by omega
theorem mulN (a b : Nat) : (a : Int) * (b : Int) = ((a * b : Nat) : Int) := (Int.natCast_mul a b).symm
theorem addN (a b : Nat) : (a : Int) + (b : Int) = ((a + b : Nat) : Int) := (Int.natCast_add a b).symm
theorem wrapN (a : Nat) (ha : a < 18446744073709551616) : IntKind.u64.wrap (a : Int) = (a : Int) := by rw [IntKind.wrap_u64]; omega
theorem wrapM (a : Nat) : IntKind.u64.wrap (a : Int) = ((a % 18446744073709551616 : Nat) : Int) := by rw [IntKind.wrap_u64]; omega
end Mul
set_option maxHeartbeats 1000000 in
theorem mul64_any (x y : Nat) (hx : x < 18446744073709551616) (hy : y < 18446744073709551616) (w : World) :
    Calls Tryd.prog 94 #[.int .u64 x, .int .u64 y] w fun e w' => e = .returned (.tuple #[.int .u64 ((x * y / 18446744073709551616 : Nat) : Int), .int .u64 ((x * y % 18446744073709551616 : Nat) : Int)]) ∧ w = w' := by
  obtain ⟨bd, bt, bw, hhi⟩ := Lib.mul64_hi x y hx hy
  have ba := Lib.half_mul_le (a := x / 4294967296) (b := y / 4294967296) (by omega) (by omega)
  have bb := Lib.half_mul_le (a := x / 4294967296) (b := y % 4294967296) (by omega) (by omega)
  have bc := Lib.half_mul_le (a := x % 4294967296) (b := y / 4294967296) (by omega) (by omega)
  have ba' : x / 4294967296 * (y / 4294967296) < 18446744073709551616 := by omega
  have bb' : x / 4294967296 * (y % 4294967296) < 18446744073709551616 := by omega
  have bc' : x % 4294967296 * (y / 4294967296) < 18446744073709551616 := by omega
  have bh1 : x / 4294967296 * (y / 4294967296) + (x / 4294967296 * (y % 4294967296) + x % 4294967296 * (y % 4294967296) / 4294967296) / 4294967296 < 18446744073709551616 := by omega
  have bh : x / 4294967296 * (y / 4294967296) + (x / 4294967296 * (y % 4294967296) + x % 4294967296 * (y % 4294967296) / 4294967296) / 4294967296 + ((x / 4294967296 * (y % 4294967296) + x % 4294967296 * (y % 4294967296) / 4294967296) % 4294967296 + x % 4294967296 * (y / 4294967296)) / 4294967296 < 18446744073709551616 := by omega
  go_enter Tryd.func94, Tryd.ntmps94
  go_wp2
  simp only [Mul.maskN x hx, Mul.maskN y hy, Mul.divN, Mul.mulN, Mul.addN, Mul.wrapN _ bd, Mul.wrapN _ bb', Mul.wrapN _ bt, Mul.maskN _ bt, Mul.wrapN _ bc', Mul.wrapN _ bw, Mul.wrapN _ ba', Mul.wrapN _ bh1, Mul.wrapN _ bh, Mul.wrapM (x * y)]
  rw [hhi]
  go_ret2
  exact ⟨rfl, rfl⟩
theorem mul64_small (x y : Nat) (hx : x < 18446744073709551616) (hy : y < 18446744073709551616) (hs : x * y < 18446744073709551616) (w : World) :
    Calls Tryd.prog 94 #[.int .u64 x, .int .u64 y] w fun e w' => e = .returned (.tuple #[.int .u64 0, .int .u64 ((x * y : Nat) : Int)]) ∧ w = w' :=
  (mul64_any x y hx hy w).mono fun e w' ⟨he, hw⟩ => by
    rw [Nat.div_eq_of_lt hs, Nat.mod_eq_of_lt hs] at he
    exact ⟨he, hw⟩
theorem mul64_big (x y : Nat) (hx : x < 18446744073709551616) (hy : y < 18446744073709551616) (hs : 18446744073709551616 ≤ x * y) (w : World) :
    Calls Tryd.prog 94 #[.int .u64 x, .int .u64 y] w fun e w' => (∃ h l : Int, 0 < h ∧ e = .returned (.tuple #[.int .u64 h, .int .u64 l])) ∧ w = w' :=
  (mul64_any x y hx hy w).mono fun e w' ⟨he, hw⟩ => ⟨⟨_, _, by have : 0 < x * y / 18446744073709551616 := Nat.div_pos hs (by omega); omega, he⟩, hw⟩
theorem mul_ok (a b : Int) (w : World) (ha1 : -9223372036854775808 ≤ a) (ha2 : a ≤ 9223372036854775807) (hb1 : -9223372036854775808 ≤ b) (hb2 : b ≤ 9223372036854775807)
    (h1 : -9223372036854775808 ≤ a * b) (h2 : a * b ≤ 9223372036854775807) :
    Calls Tryd.prog 60 #[.int .i64 a, .int .i64 b] w fun e w' => e = .returned (.tuple #[.int .i64 (a * b), .int .i64 0]) ∧ w = w' := by
  have hn : ((a.natAbs * b.natAbs : Nat) : Int) = (a * b).natAbs := by rw [Int.natAbs_mul]
  have hs : a.natAbs * b.natAbs < 18446744073709551616 := by omega
  have m64 := mul64_small a.natAbs b.natAbs (by omega) (by omega) hs
  have hsame : (a < 0 ↔ b < 0) → ((a.natAbs * b.natAbs : Nat) : Int) = a * b := by
    intro h
    by_cases c : a < 0
    · have := Int.mul_nonneg_of_nonpos_of_nonpos (show a ≤ 0 by omega) (show b ≤ 0 by omega)
      omega
    · have := Int.mul_nonneg (show 0 ≤ a by omega) (show 0 ≤ b by omega)
      omega
  have hother : ¬ (a < 0 ↔ b < 0) → -((a.natAbs * b.natAbs : Nat) : Int) = a * b := by
    intro h
    by_cases c : a < 0
    · have := Int.mul_nonpos_of_nonpos_of_nonneg (show a ≤ 0 by omega) (show 0 ≤ b by omega)
      omega
    · have := Int.mul_nonpos_of_nonneg_of_nonpos (show 0 ≤ a by omega) (show b ≤ 0 by omega)
      omega
  generalize a.natAbs * b.natAbs = p at *
  generalize a * b = ab at *
  have M := Lib.hid m64
  clear m64
  have arms : ∀ x y : Bool, (a < 0 ↔ x = true) → (b < 0 ↔ y = true) → decide (a < 0) = x → decide (b < 0) = y →
      Calls Tryd.prog 60 #[.int .i64 a, .int .i64 b] w fun e w' => e = .returned (.tuple #[.int .i64 ab, .int .i64 0]) ∧ w = w' := by
    intro x y hx hy dx dy
    cases x <;> cases y
    · have e1 := hsame (by simp [hx, hy])
      subst e1
      clear hn hother hsame hx hy
      go_enter Tryd.func60, Tryd.ntmps60
      go_wp2_with (first | (go_at_call 95; refine (unsigned_any _ _ (by omega) (by omega)).mono ?_; rintro e w' ⟨rfl, rfl⟩) | (go_at_call 94; refine (M.out _).mono ?_; rintro e w' ⟨rfl, rfl⟩) | (go_at_call 96; refine (signed_in _ _ (by omega) (by omega)).mono ?_; rintro e w' ⟨rfl, rfl⟩))
      go_ret2
      exact ⟨rfl, rfl⟩
    · have e1 := hother (by simp [hx, hy])
      subst e1
      clear hn hother hsame hx hy
      go_enter Tryd.func60, Tryd.ntmps60
      go_wp2_with (first | (go_at_call 95; refine (unsigned_any _ _ (by omega) (by omega)).mono ?_; rintro e w' ⟨rfl, rfl⟩) | (go_at_call 94; refine (M.out _).mono ?_; rintro e w' ⟨rfl, rfl⟩) | (go_at_call 96; refine (signed_neg _ _ (by omega) (by omega)).mono ?_; rintro e w' ⟨rfl, rfl⟩))
      go_ret2
      exact ⟨rfl, rfl⟩
    · have e1 := hother (by simp [hx, hy])
      subst e1
      clear hn hother hsame hx hy
      go_enter Tryd.func60, Tryd.ntmps60
      go_wp2_with (first | (go_at_call 95; refine (unsigned_any _ _ (by omega) (by omega)).mono ?_; rintro e w' ⟨rfl, rfl⟩) | (go_at_call 94; refine (M.out _).mono ?_; rintro e w' ⟨rfl, rfl⟩) | (go_at_call 96; refine (signed_neg _ _ (by omega) (by omega)).mono ?_; rintro e w' ⟨rfl, rfl⟩))
      go_ret2
      exact ⟨rfl, rfl⟩
    · have e1 := hsame (by simp [hx, hy])
      subst e1
      clear hn hother hsame hx hy
      go_enter Tryd.func60, Tryd.ntmps60
      go_wp2_with (first | (go_at_call 95; refine (unsigned_any _ _ (by omega) (by omega)).mono ?_; rintro e w' ⟨rfl, rfl⟩) | (go_at_call 94; refine (M.out _).mono ?_; rintro e w' ⟨rfl, rfl⟩) | (go_at_call 96; refine (signed_in _ _ (by omega) (by omega)).mono ?_; rintro e w' ⟨rfl, rfl⟩))
      go_ret2
      exact ⟨rfl, rfl⟩
  exact arms (decide (a < 0)) (decide (b < 0)) (by simp) (by simp) rfl rfl
theorem drewN_drewN (w : World) (n m : Nat) : (w.drewN n).drewN m = w.drewN (n + m) := by simp [World.drewN, Nat.add_assoc]
theorem mul_over (a b : Int) (w : World) (ha1 : -9223372036854775808 ≤ a) (ha2 : a ≤ 9223372036854775807) (hb1 : -9223372036854775808 ≤ b) (hb2 : b ≤ 9223372036854775807)
    (h : a * b < -9223372036854775808 ∨ 9223372036854775807 < a * b) :
    Calls Tryd.prog 60 #[.int .i64 a, .int .i64 b] w fun e w' => e = .returned (.tuple #[.int .i64 0, .int .i64 10]) ∧ w = w' := by
  have hn : ((a.natAbs * b.natAbs : Nat) : Int) = (a * b).natAbs := by rw [Int.natAbs_mul]
  by_cases hs : a.natAbs * b.natAbs < 18446744073709551616
  · have m64 := mul64_small a.natAbs b.natAbs (by omega) (by omega) hs
    have hsame : (a < 0 ↔ b < 0) → 9223372036854775807 < ((a.natAbs * b.natAbs : Nat) : Int) := by
      intro g
      by_cases c : a < 0
      · have := Int.mul_nonneg_of_nonpos_of_nonpos (show a ≤ 0 by omega) (show b ≤ 0 by omega)
        omega
      · have := Int.mul_nonneg (show 0 ≤ a by omega) (show 0 ≤ b by omega)
        omega
    have hother : ¬ (a < 0 ↔ b < 0) → 9223372036854775808 < ((a.natAbs * b.natAbs : Nat) : Int) := by
      intro g
      by_cases c : a < 0
      · have := Int.mul_nonpos_of_nonpos_of_nonneg (show a ≤ 0 by omega) (show 0 ≤ b by omega)
        omega
      · have := Int.mul_nonpos_of_nonneg_of_nonpos (show 0 ≤ a by omega) (show b ≤ 0 by omega)
        omega
    generalize a.natAbs * b.natAbs = p at *
    clear hn h
    have M := Lib.hid m64
    clear m64
    have arms : ∀ x y : Bool, (a < 0 ↔ x = true) → (b < 0 ↔ y = true) → decide (a < 0) = x → decide (b < 0) = y →
        Calls Tryd.prog 60 #[.int .i64 a, .int .i64 b] w fun e w' => e = .returned (.tuple #[.int .i64 0, .int .i64 10]) ∧ w = w' := by
      intro x y hx hy dx dy
      cases x <;> cases y
      · have e1 := hsame (by simp [hx, hy])
        clear hother hsame hx hy
        go_enter Tryd.func60, Tryd.ntmps60
        go_wp2_with (first | (go_at_call 95; refine (unsigned_any _ _ (by omega) (by omega)).mono ?_; rintro e w' ⟨rfl, rfl⟩) | (go_at_call 94; refine (M.out _).mono ?_; rintro e w' ⟨rfl, rfl⟩) | (go_at_call 96; refine (signed_over _ _ (by omega) (by omega)).mono ?_; rintro e w' ⟨rfl, rfl⟩))
        go_ret2
        exact ⟨rfl, rfl⟩
      · have e1 := hother (by simp [hx, hy])
        clear hother hsame hx hy
        go_enter Tryd.func60, Tryd.ntmps60
        go_wp2_with (first | (go_at_call 95; refine (unsigned_any _ _ (by omega) (by omega)).mono ?_; rintro e w' ⟨rfl, rfl⟩) | (go_at_call 94; refine (M.out _).mono ?_; rintro e w' ⟨rfl, rfl⟩) | (go_at_call 96; refine (signed_under _ _ (by omega) (by omega)).mono ?_; rintro e w' ⟨rfl, rfl⟩))
        go_ret2
        exact ⟨rfl, rfl⟩
      · have e1 := hother (by simp [hx, hy])
        clear hother hsame hx hy
        go_enter Tryd.func60, Tryd.ntmps60
        go_wp2_with (first | (go_at_call 95; refine (unsigned_any _ _ (by omega) (by omega)).mono ?_; rintro e w' ⟨rfl, rfl⟩) | (go_at_call 94; refine (M.out _).mono ?_; rintro e w' ⟨rfl, rfl⟩) | (go_at_call 96; refine (signed_under _ _ (by omega) (by omega)).mono ?_; rintro e w' ⟨rfl, rfl⟩))
        go_ret2
        exact ⟨rfl, rfl⟩
      · have e1 := hsame (by simp [hx, hy])
        clear hother hsame hx hy
        go_enter Tryd.func60, Tryd.ntmps60
        go_wp2_with (first | (go_at_call 95; refine (unsigned_any _ _ (by omega) (by omega)).mono ?_; rintro e w' ⟨rfl, rfl⟩) | (go_at_call 94; refine (M.out _).mono ?_; rintro e w' ⟨rfl, rfl⟩) | (go_at_call 96; refine (signed_over _ _ (by omega) (by omega)).mono ?_; rintro e w' ⟨rfl, rfl⟩))
        go_ret2
        exact ⟨rfl, rfl⟩
    exact arms (decide (a < 0)) (decide (b < 0)) (by simp) (by simp) rfl rfl
  · have m64 := mul64_big a.natAbs b.natAbs (by omega) (by omega) (by omega)
    have M := Lib.hid m64
    clear m64 hn h hs
    go_enter Tryd.func60, Tryd.ntmps60
    go_wp2_with (first | (go_at_call 95; refine (unsigned_any _ _ (by omega) (by omega)).mono ?_; rintro e w' ⟨rfl, rfl⟩) | (go_at_call 94; refine (M.out _).mono ?_; rintro e w' ⟨⟨hh, ll, hpos, rfl⟩, rfl⟩))
    go_ret2
    exact ⟨rfl, rfl⟩
def rightB (i n : Int) : Bool := i == 0 || (i == 1 || i == -1) && n == 0
theorem rightB_iff (i n : Int) : rightB i n = true ↔ i = 0 ∨ (i = 1 ∨ i = -1) ∧ n = 0 := by simp [rightB]
def lessB (i n j m : Int) : Bool := rightB i n && rightB j m && (if i = j then decide (n < m) else decide (i < j))
theorem fl_unique {a b q r : Int} (h : q * b + r = a) (hr : (0 < b ∧ 0 ≤ r ∧ r < b) ∨ (b < 0 ∧ b < r ∧ r ≤ 0)) : q = a.fdiv b ∧ r = a.fmod b := by
  rcases hr with ⟨hb, h1, h2⟩ | ⟨hb, h1, h2⟩
  · have := (Int.fdiv_fmod_unique (a := a) (b := b) (r := r) (q := q) hb).2 ⟨by rw [Int.mul_comm b q]; omega, h1, h2⟩
    exact ⟨this.1.symm, this.2.symm⟩
  · have e := (Int.fdiv_fmod_unique (a := -a) (b := -b) (r := -r) (q := q) (by omega)).2 ⟨by rw [Int.neg_mul, Int.mul_comm b q]; omega, by omega, by omega⟩
    have e1 := e.1
    rw [Int.neg_fdiv_neg] at e1
    have e2 := Int.mul_fdiv_add_fmod a b
    rw [e1, Int.mul_comm b q] at e2
    exact ⟨e1.symm, by omega⟩
theorem floor_zero (a : Int) (w : World) :
    Calls Tryd.prog 59 #[.int .i64 a, .int .i64 0] w fun e w' => e = .returned (.tuple #[.int .i64 0, .int .i64 0, .int .i64 11]) ∧ w = w' := by
  go_enter Tryd.func59, Tryd.ntmps59
  go_wp2
  go_returns
  exact ⟨rfl, rfl⟩
theorem floor_over (w : World) :
    Calls Tryd.prog 59 #[.int .i64 (-9223372036854775808), .int .i64 (-1)] w fun e w' => e = .returned (.tuple #[.int .i64 0, .int .i64 0, .int .i64 10]) ∧ w = w' := by
  go_enter Tryd.func59, Tryd.ntmps59
  go_wp2
  go_returns
  exact ⟨rfl, rfl⟩
theorem floor_pos (a b : Int) (w : World) (ha1 : 0 ≤ a) (ha2 : a ≤ 9223372036854775807) (hb1 : 1 ≤ b) (hb2 : b ≤ 9223372036854775807) :
    Calls Tryd.prog 59 #[.int .i64 a, .int .i64 b] w fun e w' => e = .returned (.tuple #[.int .i64 (a.fdiv b), .int .i64 (a.fmod b), .int .i64 0]) ∧ ∃ n, w' = w.drewN n := by
  have U := Lib.hid (fl_unique (a := a) (b := b) (q := a / b) (r := a % b) (by rw [Int.mul_comm]; exact Int.mul_ediv_add_emod a b) (.inl ⟨by omega, Int.emod_nonneg _ (by omega), Int.emod_lt_of_pos _ (by omega)⟩))
  have n1 : 0 ≤ a % b := Int.emod_nonneg _ (by omega)
  have n2 : a % b < b := Int.emod_lt_of_pos _ (by omega)
  have m1 : 0 ≤ a / b := Int.ediv_nonneg (by omega) (by omega)
  have m2 : a / b ≤ a := Int.ediv_le_self _ (by omega)
  by_cases c : a % b = 0
  · have c' := Lib.hid c
    have d1 : (a % b != 0) = false := by rw [c]; rfl
    clear c
    go_enter Tryd.func59, Tryd.ntmps59
    go_wp2
    go_quiet (fail)
    go_wp2
    go_returns
    exact ⟨ret_int3 U.out.1 U.out.2 rfl, _, rfl⟩
  · have d0 : 0 < a % b := by omega
    have d1 : (a % b != 0) = true := by simpa using c
    have d2 : decide (a % b < 0) = false := by simp; omega
    have d3 : decide (b < 0) = false := by simp; omega
    clear c
    go_enter Tryd.func59, Tryd.ntmps59
    go_wp2
    go_quiet (fail)
    go_wp2
    go_returns
    exact ⟨ret_int3 U.out.1 U.out.2 rfl, _, rfl⟩
theorem floor_gen (a b : Int) (w : World) (ha1 : -9223372036854775808 ≤ a) (ha2 : a ≤ 9223372036854775807) (hb1 : -9223372036854775808 ≤ b) (hb2 : b ≤ 9223372036854775807)
    (h0 : b ≠ 0) (hno : ¬ (a = -9223372036854775808 ∧ b = -1)) (hneg : a < 0 ∨ b < 0) :
    Calls Tryd.prog 59 #[.int .i64 a, .int .i64 b] w fun e w' => e = .returned (.tuple #[.int .i64 (a.fdiv b), .int .i64 (a.fmod b), .int .i64 0]) ∧ ∃ n, w' = w.drewN n := by
  have hm := Int.mul_tdiv_add_tmod a b
  rw [Int.mul_comm] at hm
  have q1 := Int.natAbs_tdiv_le_natAbs a b
  have r1 : (a.tmod b).natAbs < b.natAbs := by rw [Int.natAbs_tmod]; exact Nat.mod_lt _ (by omega)
  have s1 : 0 ≤ a → 0 ≤ a.tmod b := fun h => Int.tmod_nonneg b h
  have s2 : a ≤ 0 → a.tmod b ≤ 0 := fun h => by have := Int.tmod_nonneg b (show 0 ≤ -a by omega); rw [Int.neg_tmod] at this; omega
  have qq : a.tdiv b ≤ 9223372036854775807 := by
    by_cases e : a = -9223372036854775808
    · have hb : b ≠ -1 := fun h => hno ⟨e, h⟩
      have hd := Int.natAbs_tdiv a b
      by_cases hb1 : b = 1
      · rw [hb1, Int.tdiv_one]; omega
      · have h2 : 2 ≤ b.natAbs := by omega
        have h3 : a.natAbs.div b.natAbs ≤ a.natAbs / 2 := Nat.div_le_div_left h2 (by omega)
        omega
    · omega
  have qb1 : -9223372036854775808 ≤ a.tdiv b := by omega
  have z0 : (b == 0) = false := by simpa using h0
  have qs : a.tmod b = 0 ∨ -9223372036854775807 ≤ a.tdiv b := by
    by_cases e : a.tmod b = 0
    · exact .inl e
    · right
      by_cases hb : a.tdiv b = -9223372036854775808
      · exfalso
        have hab : a.natAbs = 9223372036854775808 := by omega
        have ha : a = -9223372036854775808 := by omega
        have hd := Int.natAbs_tdiv a b
        by_cases hb1 : b.natAbs = 1
        · have : b = 1 ∨ b = -1 := by omega
          rcases this with h | h
          · rw [h] at e; simp at e
          · rw [h] at e; simp at e
        · have h2 : 2 ≤ b.natAbs := by omega
          have h3 : a.natAbs.div b.natAbs ≤ a.natAbs / 2 := Nat.div_le_div_left h2 (by omega)
          omega
      · omega
  have z0 : (b == 0) = false := by simpa using h0
  have z1 : (a == -9223372036854775808) = false ∨ (a == -9223372036854775808) = true ∧ (b == -1) = false := by
    by_cases e : a = -9223372036854775808
    · right; exact ⟨by simpa using e, by simp; omega⟩
    · left; simpa using e
  have FU := Lib.hid (fun q r => @fl_unique a b q r)
  have HM := Lib.hid hm
  have S1 := Lib.hid s1
  have S2 := Lib.hid s2
  clear q1 hm hno s1 s2 hneg
  by_cases c : a.tmod b = 0
  · have U := Lib.hid (FU.out (a.tdiv b) (a.tmod b) HM.out (by omega))
    have d1 : (a.tmod b != 0) = false := by rw [c]; rfl
    clear c qs FU
    rcases z1 with z1 | ⟨z1, z2⟩
    all_goals
      go_enter Tryd.func59, Tryd.ntmps59
      go_wp2
      go_quiet (fail)
      go_wp2
      go_returns
      exact ⟨ret_int3 U.out.1 U.out.2 rfl, _, rfl⟩
  · have d1 : (a.tmod b != 0) = true := by simpa using c
    have qs' := qs.resolve_left c
    by_cases cr : a.tmod b < 0 <;> by_cases cb : b < 0
    · have U := Lib.hid (FU.out (a.tdiv b) (a.tmod b) HM.out (by omega))
      have d2 : decide (a.tmod b < 0) = true := by simpa using cr
      have d3 : decide (b < 0) = true := by simpa using cb
      clear c qs FU
      rcases z1 with z1 | ⟨z1, z2⟩
      all_goals
        go_enter Tryd.func59, Tryd.ntmps59
        go_wp2
        go_quiet (fail)
        go_wp2
        go_returns
        exact ⟨ret_int3 U.out.1 U.out.2 rfl, _, rfl⟩
    · have U := Lib.hid (FU.out (a.tdiv b - 1) (a.tmod b + b) (by have := HM.out; rw [Int.sub_mul]; omega) (by omega))
      have d2 : decide (a.tmod b < 0) = true := by simpa using cr
      have d3 : decide (b < 0) = false := by simpa using cb
      clear c qs FU
      rcases z1 with z1 | ⟨z1, z2⟩
      all_goals
        go_enter Tryd.func59, Tryd.ntmps59
        go_wp2
        go_quiet (fail)
        go_wp2
        go_returns
        exact ⟨ret_int3 U.out.1 U.out.2 rfl, _, rfl⟩
    · have U := Lib.hid (FU.out (a.tdiv b - 1) (a.tmod b + b) (by have := HM.out; rw [Int.sub_mul]; omega) (by omega))
      have d2 : decide (a.tmod b < 0) = false := by simpa using cr
      have d3 : decide (b < 0) = true := by simpa using cb
      clear c qs FU
      rcases z1 with z1 | ⟨z1, z2⟩
      all_goals
        go_enter Tryd.func59, Tryd.ntmps59
        go_wp2
        go_quiet (fail)
        go_wp2
        go_returns
        exact ⟨ret_int3 U.out.1 U.out.2 rfl, _, rfl⟩
    · have U := Lib.hid (FU.out (a.tdiv b) (a.tmod b) HM.out (by omega))
      have d2 : decide (a.tmod b < 0) = false := by simpa using cr
      have d3 : decide (b < 0) = false := by simpa using cb
      clear c qs FU
      rcases z1 with z1 | ⟨z1, z2⟩
      all_goals
        go_enter Tryd.func59, Tryd.ntmps59
        go_wp2
        go_quiet (fail)
        go_wp2
        go_returns
        exact ⟨ret_int3 U.out.1 U.out.2 rfl, _, rfl⟩
theorem floor_ok (a b : Int) (w : World) (ha1 : -9223372036854775808 ≤ a) (ha2 : a ≤ 9223372036854775807) (hb1 : -9223372036854775808 ≤ b) (hb2 : b ≤ 9223372036854775807)
    (h0 : b ≠ 0) (hno : ¬ (a = -9223372036854775808 ∧ b = -1)) :
    Calls Tryd.prog 59 #[.int .i64 a, .int .i64 b] w fun e w' => e = .returned (.tuple #[.int .i64 (a.fdiv b), .int .i64 (a.fmod b), .int .i64 0]) ∧ ∃ n, w' = w.drewN n := by
  by_cases h : 0 ≤ a ∧ 1 ≤ b
  · exact floor_pos a b w h.1 ha2 h.2 hb2
  · exact floor_gen a b w ha1 ha2 hb1 hb2 h0 hno (by omega)
/-- The least common multiple as it is reckoned. -/
def lcmN (a b : Int) : Nat := a.natAbs / Nat.gcd a.natAbs b.natAbs * b.natAbs
end Go.Proofs.YtacpcokmgahjaaaDoor
