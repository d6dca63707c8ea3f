/- Contracts of the document's own answer for layer 1: sizes together. -/
import Derived.Test.YtplbdfdpcgmcjaaFn6
import Derived.Test.YtplbdfdpcgmcjaaLong
namespace Go.Proofs.Ytplbdfdpcgmcjaa
set_option linter.unusedVariables false
set_option linter.unusedSimpArgs false
open Go.ChangeShapes Go.WideShapes Go.ChangeAt Go.RowKit
open Long (dig)

theorem setCell_drewN (w : World) (n : Nat) (a : Addr) (v : Value) : (w.drewN n).setCell a v = (w.setCell a v).drewN n := rfl
attribute [local go_sem] setCell_drewN
theorem pow_step (x P : Nat) (hP : 0 < P) : x % (P * 65536) = x % P + P * (x / P % 65536) := Nat.mod_mul
theorem car_step (n m k : Nat) : dig n k + dig m k + Long.car n m k = dig (n + m) k + 65536 * Long.car n m (k + 1) := by
  have hP : 0 < 65536 ^ k := Nat.pow_pos (by omega)
  unfold dig Long.car
  rw [Nat.pow_succ]
  generalize 65536 ^ k = P at *
  have hn := pow_step n P hP
  have hm := pow_step m P hP
  have hs := pow_step (n + m) P hP
  rw [hn, hm]
  have e1 : n / P = n / P / 65536 * 65536 + n / P % 65536 := by omega
  have e2 : m / P = m / P / 65536 * 65536 + m / P % 65536 := by omega
  have en := Nat.div_add_mod n P
  have em := Nat.div_add_mod m P
  have l1 := Nat.mod_lt n hP
  have l2 := Nat.mod_lt m hP
  -- the sum's quotient
  have q : (n + m) / P = n / P + m / P + (n % P + m % P) / P := by
    have : n + m = P * (n / P + m / P) + (n % P + m % P) := by rw [Nat.mul_add]; omega
    rw [this, Nat.mul_add_div hP]
  have r : (n % P + P * (n / P % 65536) + (m % P + P * (m / P % 65536))) / (P * 65536) = (n / P % 65536 + m / P % 65536 + (n % P + m % P) / P) / 65536 := by
    rw [← Nat.div_div_eq_div_mul]
    congr 1
    have : n % P + P * (n / P % 65536) + (m % P + P * (m / P % 65536)) = P * (n / P % 65536 + m / P % 65536) + (n % P + m % P) := by rw [Nat.mul_add]; omega
    rw [this, Nat.mul_add_div hP]
  rw [q, r]
  omega
theorem car_01 (n m k : Nat) : Long.car n m k ≤ 1 := by
  have hP : 0 < 65536 ^ k := Nat.pow_pos (by omega)
  unfold Long.car
  generalize 65536 ^ k = P at *
  have l1 := Nat.mod_lt n hP
  have l2 := Nat.mod_lt m hP
  have : (n % P + m % P) / P < 2 := Nat.div_lt_of_lt_mul (by omega)
  omega
theorem car_zero (n m : Nat) : Long.car n m 0 = 0 := by unfold Long.car; simp [Nat.mod_one]

/-- The world of a sum of sizes at the head of round k. -/
def moreW (n m k : Nat) (w : World) : World := (((w.alloc (.cells #[.int .u32 (dig n 0 : Nat), .int .u32 (dig n 1 : Nat), .int .u32 (dig n 2 : Nat), .int .u32 (dig n 3 : Nat), .int .u32 (dig n 4 : Nat), .int .u32 (dig n 5 : Nat), .int .u32 (dig n 6 : Nat), .int .u32 (dig n 7 : Nat), .int .u32 (dig n 8 : Nat)] 41)).alloc (.cells #[.int .u32 (dig m 0 : Nat), .int .u32 (dig m 1 : Nat), .int .u32 (dig m 2 : Nat), .int .u32 (dig m 3 : Nat), .int .u32 (dig m 4 : Nat), .int .u32 (dig m 5 : Nat), .int .u32 (dig m 6 : Nat), .int .u32 (dig m 7 : Nat), .int .u32 (dig m 8 : Nat)] 41)).alloc (.cells #[.int .u32 0, .int .u32 0, .int .u32 0, .int .u32 0, .int .u32 0, .int .u32 0, .int .u32 0, .int .u32 0, .int .u32 0] 41)).alloc (.cells #[.int .u32 (if 0 < k then (dig (n + m) 0 : Nat) else 0), .int .u32 (if 1 < k then (dig (n + m) 1 : Nat) else 0), .int .u32 (if 2 < k then (dig (n + m) 2 : Nat) else 0), .int .u32 (if 3 < k then (dig (n + m) 3 : Nat) else 0), .int .u32 (if 4 < k then (dig (n + m) 4 : Nat) else 0), .int .u32 (if 5 < k then (dig (n + m) 5 : Nat) else 0), .int .u32 (if 6 < k then (dig (n + m) 6 : Nat) else 0), .int .u32 (if 7 < k then (dig (n + m) 7 : Nat) else 0), .int .u32 (if 8 < k then (dig (n + m) 8 : Nat) else 0)] 41)

set_option maxHeartbeats 8000000 in
theorem more_any (n m : Nat) (w : World) :
    Calls Try.prog 42 #[.agg #[.int .u32 (dig n 0 : Nat), .int .u32 (dig n 1 : Nat), .int .u32 (dig n 2 : Nat), .int .u32 (dig n 3 : Nat), .int .u32 (dig n 4 : Nat), .int .u32 (dig n 5 : Nat), .int .u32 (dig n 6 : Nat), .int .u32 (dig n 7 : Nat), .int .u32 (dig n 8 : Nat)], .agg #[.int .u32 (dig m 0 : Nat), .int .u32 (dig m 1 : Nat), .int .u32 (dig m 2 : Nat), .int .u32 (dig m 3 : Nat), .int .u32 (dig m 4 : Nat), .int .u32 (dig m 5 : Nat), .int .u32 (dig m 6 : Nat), .int .u32 (dig m 7 : Nat), .int .u32 (dig m 8 : Nat)]] w fun e w' => e = .returned (.agg #[.int .u32 (dig (n + m) 0 : Nat), .int .u32 (dig (n + m) 1 : Nat), .int .u32 (dig (n + m) 2 : Nat), .int .u32 (dig (n + m) 3 : Nat), .int .u32 (dig (n + m) 4 : Nat), .int .u32 (dig (n + m) 5 : Nat), .int .u32 (dig (n + m) 6 : Nat), .int .u32 (dig (n + m) 7 : Nat), .int .u32 (dig (n + m) 8 : Nat)]) ∧ ∃ nq, w' = ((((w.alloc (.cells #[.int .u32 (dig n 0 : Nat), .int .u32 (dig n 1 : Nat), .int .u32 (dig n 2 : Nat), .int .u32 (dig n 3 : Nat), .int .u32 (dig n 4 : Nat), .int .u32 (dig n 5 : Nat), .int .u32 (dig n 6 : Nat), .int .u32 (dig n 7 : Nat), .int .u32 (dig n 8 : Nat)] 41)).alloc (.cells #[.int .u32 (dig m 0 : Nat), .int .u32 (dig m 1 : Nat), .int .u32 (dig m 2 : Nat), .int .u32 (dig m 3 : Nat), .int .u32 (dig m 4 : Nat), .int .u32 (dig m 5 : Nat), .int .u32 (dig m 6 : Nat), .int .u32 (dig m 7 : Nat), .int .u32 (dig m 8 : Nat)] 41)).alloc (.cells #[.int .u32 (dig (n + m) 0 : Nat), .int .u32 (dig (n + m) 1 : Nat), .int .u32 (dig (n + m) 2 : Nat), .int .u32 (dig (n + m) 3 : Nat), .int .u32 (dig (n + m) 4 : Nat), .int .u32 (dig (n + m) 5 : Nat), .int .u32 (dig (n + m) 6 : Nat), .int .u32 (dig (n + m) 7 : Nat), .int .u32 (dig (n + m) 8 : Nat)] 41)).alloc (.cells #[.int .u32 (dig (n + m) 0 : Nat), .int .u32 (dig (n + m) 1 : Nat), .int .u32 (dig (n + m) 2 : Nat), .int .u32 (dig (n + m) 3 : Nat), .int .u32 (dig (n + m) 4 : Nat), .int .u32 (dig (n + m) 5 : Nat), .int .u32 (dig (n + m) 6 : Nat), .int .u32 (dig (n + m) 7 : Nat), .int .u32 (dig (n + m) 8 : Nat)] 41)).drewN nq := by
  have H0 := Lib.hid (car_zero n m)
  go_enter Try.func42, Try.ntmps42
  go_wp2
  go_loopw [6, 7] (fun c i wr => ∃ k : Nat, k ≤ 9 ∧ i = .int .i64 k ∧ c = .int .u32 (Long.car n m k : Nat) ∧ ∃ nq, wr = (moreW n m k w).drewN nq) (fun _ i _ => (9 - intOf i).toNat)
  case atStart => exact ⟨0, by omega, rfl, by rw [H0.out]; rfl, 0, rfl⟩
  case round =>
    obtain ⟨k, hk, rfl, rfl, nq, rfl⟩ := hrel
    have hk' : k = 0 ∨ k = 1 ∨ k = 2 ∨ k = 3 ∨ k = 4 ∨ k = 5 ∨ k = 6 ∨ k = 7 ∨ k = 8 ∨ k = 9 := by omega
    clear hk
    rcases hk' with rfl | rfl | rfl | rfl | rfl | rfl | rfl | rfl | rfl | rfl
    · have a1 := Long.dig_lt n 0
      have a2 := Long.dig_lt m 0
      have a3 := car_01 n m 0
      have st : dig n 0 + dig m 0 + Long.car n m 0 = dig (n + m) 0 + 65536 * Long.car n m 1 := car_step n m 0
      have a4 := Long.dig_lt (n + m) 0
      have E1 := Lib.hid (show ((dig n 0 : Nat) + (dig m 0 : Nat) + (Long.car n m 0 : Nat) : Int) % 65536 = (dig (n + m) 0 : Nat) by omega)
      have E2 := Lib.hid (show ((dig n 0 : Nat) + (dig m 0 : Nat) + (Long.car n m 0 : Nat) : Int) / 65536 = (Long.car n m 1 : Nat) by omega)
      clear st a4
      unfold moreW
      simp (config := { decide := true }) only [if_true, if_false, Int.cast_ofNat_Int]
      go_wp2
      go_quiet (fail)
      go_wp2
      rw [E1.out, E2.out]
      go_roundw
      case rel => exact ⟨1, by omega, rfl, rfl, _, rfl⟩
      case measure => simp [intOf]
    · have a1 := Long.dig_lt n 1
      have a2 := Long.dig_lt m 1
      have a3 := car_01 n m 1
      have st : dig n 1 + dig m 1 + Long.car n m 1 = dig (n + m) 1 + 65536 * Long.car n m 2 := car_step n m 1
      have a4 := Long.dig_lt (n + m) 1
      have E1 := Lib.hid (show ((dig n 1 : Nat) + (dig m 1 : Nat) + (Long.car n m 1 : Nat) : Int) % 65536 = (dig (n + m) 1 : Nat) by omega)
      have E2 := Lib.hid (show ((dig n 1 : Nat) + (dig m 1 : Nat) + (Long.car n m 1 : Nat) : Int) / 65536 = (Long.car n m 2 : Nat) by omega)
      clear st a4
      unfold moreW
      simp (config := { decide := true }) only [if_true, if_false, Int.cast_ofNat_Int]
      go_wp2
      go_quiet (fail)
      go_wp2
      rw [E1.out, E2.out]
      go_roundw
      case rel => exact ⟨2, by omega, rfl, rfl, _, rfl⟩
      case measure => simp [intOf]
    · have a1 := Long.dig_lt n 2
      have a2 := Long.dig_lt m 2
      have a3 := car_01 n m 2
      have st : dig n 2 + dig m 2 + Long.car n m 2 = dig (n + m) 2 + 65536 * Long.car n m 3 := car_step n m 2
      have a4 := Long.dig_lt (n + m) 2
      have E1 := Lib.hid (show ((dig n 2 : Nat) + (dig m 2 : Nat) + (Long.car n m 2 : Nat) : Int) % 65536 = (dig (n + m) 2 : Nat) by omega)
      have E2 := Lib.hid (show ((dig n 2 : Nat) + (dig m 2 : Nat) + (Long.car n m 2 : Nat) : Int) / 65536 = (Long.car n m 3 : Nat) by omega)
      clear st a4
      unfold moreW
      simp (config := { decide := true }) only [if_true, if_false, Int.cast_ofNat_Int]
      go_wp2
      go_quiet (fail)
      go_wp2
      rw [E1.out, E2.out]
      go_roundw
      case rel => exact ⟨3, by omega, rfl, rfl, _, rfl⟩
      case measure => simp [intOf]
    · have a1 := Long.dig_lt n 3
      have a2 := Long.dig_lt m 3
      have a3 := car_01 n m 3
      have st : dig n 3 + dig m 3 + Long.car n m 3 = dig (n + m) 3 + 65536 * Long.car n m 4 := car_step n m 3
      have a4 := Long.dig_lt (n + m) 3
      have E1 := Lib.hid (show ((dig n 3 : Nat) + (dig m 3 : Nat) + (Long.car n m 3 : Nat) : Int) % 65536 = (dig (n + m) 3 : Nat) by omega)
      have E2 := Lib.hid (show ((dig n 3 : Nat) + (dig m 3 : Nat) + (Long.car n m 3 : Nat) : Int) / 65536 = (Long.car n m 4 : Nat) by omega)
      clear st a4
      unfold moreW
      simp (config := { decide := true }) only [if_true, if_false, Int.cast_ofNat_Int]
      go_wp2
      go_quiet (fail)
      go_wp2
      rw [E1.out, E2.out]
      go_roundw
      case rel => exact ⟨4, by omega, rfl, rfl, _, rfl⟩
      case measure => simp [intOf]
    · have a1 := Long.dig_lt n 4
      have a2 := Long.dig_lt m 4
      have a3 := car_01 n m 4
      have st : dig n 4 + dig m 4 + Long.car n m 4 = dig (n + m) 4 + 65536 * Long.car n m 5 := car_step n m 4
      have a4 := Long.dig_lt (n + m) 4
      have E1 := Lib.hid (show ((dig n 4 : Nat) + (dig m 4 : Nat) + (Long.car n m 4 : Nat) : Int) % 65536 = (dig (n + m) 4 : Nat) by omega)
      have E2 := Lib.hid (show ((dig n 4 : Nat) + (dig m 4 : Nat) + (Long.car n m 4 : Nat) : Int) / 65536 = (Long.car n m 5 : Nat) by omega)
      clear st a4
      unfold moreW
      simp (config := { decide := true }) only [if_true, if_false, Int.cast_ofNat_Int]
      go_wp2
      go_quiet (fail)
      go_wp2
      rw [E1.out, E2.out]
      go_roundw
      case rel => exact ⟨5, by omega, rfl, rfl, _, rfl⟩
      case measure => simp [intOf]
    · have a1 := Long.dig_lt n 5
      have a2 := Long.dig_lt m 5
      have a3 := car_01 n m 5
      have st : dig n 5 + dig m 5 + Long.car n m 5 = dig (n + m) 5 + 65536 * Long.car n m 6 := car_step n m 5
      have a4 := Long.dig_lt (n + m) 5
      have E1 := Lib.hid (show ((dig n 5 : Nat) + (dig m 5 : Nat) + (Long.car n m 5 : Nat) : Int) % 65536 = (dig (n + m) 5 : Nat) by omega)
      have E2 := Lib.hid (show ((dig n 5 : Nat) + (dig m 5 : Nat) + (Long.car n m 5 : Nat) : Int) / 65536 = (Long.car n m 6 : Nat) by omega)
      clear st a4
      unfold moreW
      simp (config := { decide := true }) only [if_true, if_false, Int.cast_ofNat_Int]
      go_wp2
      go_quiet (fail)
      go_wp2
      rw [E1.out, E2.out]
      go_roundw
      case rel => exact ⟨6, by omega, rfl, rfl, _, rfl⟩
      case measure => simp [intOf]
    · have a1 := Long.dig_lt n 6
      have a2 := Long.dig_lt m 6
      have a3 := car_01 n m 6
      have st : dig n 6 + dig m 6 + Long.car n m 6 = dig (n + m) 6 + 65536 * Long.car n m 7 := car_step n m 6
      have a4 := Long.dig_lt (n + m) 6
      have E1 := Lib.hid (show ((dig n 6 : Nat) + (dig m 6 : Nat) + (Long.car n m 6 : Nat) : Int) % 65536 = (dig (n + m) 6 : Nat) by omega)
      have E2 := Lib.hid (show ((dig n 6 : Nat) + (dig m 6 : Nat) + (Long.car n m 6 : Nat) : Int) / 65536 = (Long.car n m 7 : Nat) by omega)
      clear st a4
      unfold moreW
      simp (config := { decide := true }) only [if_true, if_false, Int.cast_ofNat_Int]
      go_wp2
      go_quiet (fail)
      go_wp2
      rw [E1.out, E2.out]
      go_roundw
      case rel => exact ⟨7, by omega, rfl, rfl, _, rfl⟩
      case measure => simp [intOf]
    · have a1 := Long.dig_lt n 7
      have a2 := Long.dig_lt m 7
      have a3 := car_01 n m 7
      have st : dig n 7 + dig m 7 + Long.car n m 7 = dig (n + m) 7 + 65536 * Long.car n m 8 := car_step n m 7
      have a4 := Long.dig_lt (n + m) 7
      have E1 := Lib.hid (show ((dig n 7 : Nat) + (dig m 7 : Nat) + (Long.car n m 7 : Nat) : Int) % 65536 = (dig (n + m) 7 : Nat) by omega)
      have E2 := Lib.hid (show ((dig n 7 : Nat) + (dig m 7 : Nat) + (Long.car n m 7 : Nat) : Int) / 65536 = (Long.car n m 8 : Nat) by omega)
      clear st a4
      unfold moreW
      simp (config := { decide := true }) only [if_true, if_false, Int.cast_ofNat_Int]
      go_wp2
      go_quiet (fail)
      go_wp2
      rw [E1.out, E2.out]
      go_roundw
      case rel => exact ⟨8, by omega, rfl, rfl, _, rfl⟩
      case measure => simp [intOf]
    · have a1 := Long.dig_lt n 8
      have a2 := Long.dig_lt m 8
      have a3 := car_01 n m 8
      have st : dig n 8 + dig m 8 + Long.car n m 8 = dig (n + m) 8 + 65536 * Long.car n m 9 := car_step n m 8
      have a4 := Long.dig_lt (n + m) 8
      have E1 := Lib.hid (show ((dig n 8 : Nat) + (dig m 8 : Nat) + (Long.car n m 8 : Nat) : Int) % 65536 = (dig (n + m) 8 : Nat) by omega)
      have E2 := Lib.hid (show ((dig n 8 : Nat) + (dig m 8 : Nat) + (Long.car n m 8 : Nat) : Int) / 65536 = (Long.car n m 9 : Nat) by omega)
      clear st a4
      unfold moreW
      simp (config := { decide := true }) only [if_true, if_false, Int.cast_ofNat_Int]
      go_wp2
      go_quiet (fail)
      go_wp2
      rw [E1.out, E2.out]
      go_roundw
      case rel => exact ⟨9, by omega, rfl, rfl, _, rfl⟩
      case measure => simp [intOf]
    · unfold moreW
      simp (config := { decide := true }) only [if_true, if_false, Int.cast_ofNat_Int]
      go_wp2
      go_returns
      exact ⟨rfl, _, rfl⟩

/-- The world of a difference of sizes at the head of round k. -/
def restW (m d k : Nat) (w : World) : World := (((w.alloc (.cells #[.int .u32 (dig (m + d) 0 : Nat), .int .u32 (dig (m + d) 1 : Nat), .int .u32 (dig (m + d) 2 : Nat), .int .u32 (dig (m + d) 3 : Nat), .int .u32 (dig (m + d) 4 : Nat), .int .u32 (dig (m + d) 5 : Nat), .int .u32 (dig (m + d) 6 : Nat), .int .u32 (dig (m + d) 7 : Nat), .int .u32 (dig (m + d) 8 : Nat)] 41)).alloc (.cells #[.int .u32 (dig m 0 : Nat), .int .u32 (dig m 1 : Nat), .int .u32 (dig m 2 : Nat), .int .u32 (dig m 3 : Nat), .int .u32 (dig m 4 : Nat), .int .u32 (dig m 5 : Nat), .int .u32 (dig m 6 : Nat), .int .u32 (dig m 7 : Nat), .int .u32 (dig m 8 : Nat)] 41)).alloc (.cells #[.int .u32 0, .int .u32 0, .int .u32 0, .int .u32 0, .int .u32 0, .int .u32 0, .int .u32 0, .int .u32 0, .int .u32 0] 41)).alloc (.cells #[.int .u32 (if 0 < k then (dig d 0 : Nat) else 0), .int .u32 (if 1 < k then (dig d 1 : Nat) else 0), .int .u32 (if 2 < k then (dig d 2 : Nat) else 0), .int .u32 (if 3 < k then (dig d 3 : Nat) else 0), .int .u32 (if 4 < k then (dig d 4 : Nat) else 0), .int .u32 (if 5 < k then (dig d 5 : Nat) else 0), .int .u32 (if 6 < k then (dig d 6 : Nat) else 0), .int .u32 (if 7 < k then (dig d 7 : Nat) else 0), .int .u32 (if 8 < k then (dig d 8 : Nat) else 0)] 41)

set_option maxHeartbeats 8000000 in
theorem rest_any (m d : Nat) (w : World) :
    Calls Try.prog 43 #[.agg #[.int .u32 (dig (m + d) 0 : Nat), .int .u32 (dig (m + d) 1 : Nat), .int .u32 (dig (m + d) 2 : Nat), .int .u32 (dig (m + d) 3 : Nat), .int .u32 (dig (m + d) 4 : Nat), .int .u32 (dig (m + d) 5 : Nat), .int .u32 (dig (m + d) 6 : Nat), .int .u32 (dig (m + d) 7 : Nat), .int .u32 (dig (m + d) 8 : Nat)], .agg #[.int .u32 (dig m 0 : Nat), .int .u32 (dig m 1 : Nat), .int .u32 (dig m 2 : Nat), .int .u32 (dig m 3 : Nat), .int .u32 (dig m 4 : Nat), .int .u32 (dig m 5 : Nat), .int .u32 (dig m 6 : Nat), .int .u32 (dig m 7 : Nat), .int .u32 (dig m 8 : Nat)]] w fun e w' => e = .returned (.agg #[.int .u32 (dig d 0 : Nat), .int .u32 (dig d 1 : Nat), .int .u32 (dig d 2 : Nat), .int .u32 (dig d 3 : Nat), .int .u32 (dig d 4 : Nat), .int .u32 (dig d 5 : Nat), .int .u32 (dig d 6 : Nat), .int .u32 (dig d 7 : Nat), .int .u32 (dig d 8 : Nat)]) ∧ ∃ nq, w' = ((((w.alloc (.cells #[.int .u32 (dig (m + d) 0 : Nat), .int .u32 (dig (m + d) 1 : Nat), .int .u32 (dig (m + d) 2 : Nat), .int .u32 (dig (m + d) 3 : Nat), .int .u32 (dig (m + d) 4 : Nat), .int .u32 (dig (m + d) 5 : Nat), .int .u32 (dig (m + d) 6 : Nat), .int .u32 (dig (m + d) 7 : Nat), .int .u32 (dig (m + d) 8 : Nat)] 41)).alloc (.cells #[.int .u32 (dig m 0 : Nat), .int .u32 (dig m 1 : Nat), .int .u32 (dig m 2 : Nat), .int .u32 (dig m 3 : Nat), .int .u32 (dig m 4 : Nat), .int .u32 (dig m 5 : Nat), .int .u32 (dig m 6 : Nat), .int .u32 (dig m 7 : Nat), .int .u32 (dig m 8 : Nat)] 41)).alloc (.cells #[.int .u32 (dig d 0 : Nat), .int .u32 (dig d 1 : Nat), .int .u32 (dig d 2 : Nat), .int .u32 (dig d 3 : Nat), .int .u32 (dig d 4 : Nat), .int .u32 (dig d 5 : Nat), .int .u32 (dig d 6 : Nat), .int .u32 (dig d 7 : Nat), .int .u32 (dig d 8 : Nat)] 41)).alloc (.cells #[.int .u32 (dig d 0 : Nat), .int .u32 (dig d 1 : Nat), .int .u32 (dig d 2 : Nat), .int .u32 (dig d 3 : Nat), .int .u32 (dig d 4 : Nat), .int .u32 (dig d 5 : Nat), .int .u32 (dig d 6 : Nat), .int .u32 (dig d 7 : Nat), .int .u32 (dig d 8 : Nat)] 41)).drewN nq := by
  have H0 := Lib.hid (car_zero m d)
  go_enter Try.func43, Try.ntmps43
  go_wp2
  go_loopw [6, 7] (fun c i wr => ∃ k : Nat, k ≤ 9 ∧ i = .int .i64 k ∧ c = .int .u32 (Long.car m d k : Nat) ∧ ∃ nq, wr = (restW m d k w).drewN nq) (fun _ i _ => (9 - intOf i).toNat)
  case atStart => exact ⟨0, by omega, rfl, by rw [H0.out]; rfl, 0, rfl⟩
  case round =>
    obtain ⟨k, hk, rfl, rfl, nq, rfl⟩ := hrel
    have hk' : k = 0 ∨ k = 1 ∨ k = 2 ∨ k = 3 ∨ k = 4 ∨ k = 5 ∨ k = 6 ∨ k = 7 ∨ k = 8 ∨ k = 9 := by omega
    clear hk
    rcases hk' with rfl | rfl | rfl | rfl | rfl | rfl | rfl | rfl | rfl | rfl
    · have a1 := Long.dig_lt (m + d) 0
      have a2 := Long.dig_lt m 0
      have a3 := car_01 m d 0
      have a5 := car_01 m d 1
      have st : dig m 0 + dig d 0 + Long.car m d 0 = dig (m + d) 0 + 65536 * Long.car m d 1 := car_step m d 0
      have a4 := Long.dig_lt d 0
      have E1 := Lib.hid (show ((dig (m + d) 0 : Nat) + 65536 - (dig m 0 : Nat) - (Long.car m d 0 : Nat) : Int) % 65536 = (dig d 0 : Nat) by omega)
      have E2 := Lib.hid (show 1 - ((dig (m + d) 0 : Nat) + 65536 - (dig m 0 : Nat) - (Long.car m d 0 : Nat) : Int) / 65536 = (Long.car m d 1 : Nat) by omega)
      have a6 : ((dig (m + d) 0 : Nat) + 65536 - (dig m 0 : Nat) - (Long.car m d 0 : Nat) : Int) / 65536 ≤ 1 := by omega
      clear st a4 a5
      unfold restW
      simp (config := { decide := true }) only [if_true, if_false, Int.cast_ofNat_Int]
      go_wp2
      go_quiet (fail)
      go_wp2
      rw [E1.out, E2.out]
      go_roundw
      case rel => exact ⟨1, by omega, rfl, rfl, _, rfl⟩
      case measure => simp [intOf]
    · have a1 := Long.dig_lt (m + d) 1
      have a2 := Long.dig_lt m 1
      have a3 := car_01 m d 1
      have a5 := car_01 m d 2
      have st : dig m 1 + dig d 1 + Long.car m d 1 = dig (m + d) 1 + 65536 * Long.car m d 2 := car_step m d 1
      have a4 := Long.dig_lt d 1
      have E1 := Lib.hid (show ((dig (m + d) 1 : Nat) + 65536 - (dig m 1 : Nat) - (Long.car m d 1 : Nat) : Int) % 65536 = (dig d 1 : Nat) by omega)
      have E2 := Lib.hid (show 1 - ((dig (m + d) 1 : Nat) + 65536 - (dig m 1 : Nat) - (Long.car m d 1 : Nat) : Int) / 65536 = (Long.car m d 2 : Nat) by omega)
      have a6 : ((dig (m + d) 1 : Nat) + 65536 - (dig m 1 : Nat) - (Long.car m d 1 : Nat) : Int) / 65536 ≤ 1 := by omega
      clear st a4 a5
      unfold restW
      simp (config := { decide := true }) only [if_true, if_false, Int.cast_ofNat_Int]
      go_wp2
      go_quiet (fail)
      go_wp2
      rw [E1.out, E2.out]
      go_roundw
      case rel => exact ⟨2, by omega, rfl, rfl, _, rfl⟩
      case measure => simp [intOf]
    · have a1 := Long.dig_lt (m + d) 2
      have a2 := Long.dig_lt m 2
      have a3 := car_01 m d 2
      have a5 := car_01 m d 3
      have st : dig m 2 + dig d 2 + Long.car m d 2 = dig (m + d) 2 + 65536 * Long.car m d 3 := car_step m d 2
      have a4 := Long.dig_lt d 2
      have E1 := Lib.hid (show ((dig (m + d) 2 : Nat) + 65536 - (dig m 2 : Nat) - (Long.car m d 2 : Nat) : Int) % 65536 = (dig d 2 : Nat) by omega)
      have E2 := Lib.hid (show 1 - ((dig (m + d) 2 : Nat) + 65536 - (dig m 2 : Nat) - (Long.car m d 2 : Nat) : Int) / 65536 = (Long.car m d 3 : Nat) by omega)
      have a6 : ((dig (m + d) 2 : Nat) + 65536 - (dig m 2 : Nat) - (Long.car m d 2 : Nat) : Int) / 65536 ≤ 1 := by omega
      clear st a4 a5
      unfold restW
      simp (config := { decide := true }) only [if_true, if_false, Int.cast_ofNat_Int]
      go_wp2
      go_quiet (fail)
      go_wp2
      rw [E1.out, E2.out]
      go_roundw
      case rel => exact ⟨3, by omega, rfl, rfl, _, rfl⟩
      case measure => simp [intOf]
    · have a1 := Long.dig_lt (m + d) 3
      have a2 := Long.dig_lt m 3
      have a3 := car_01 m d 3
      have a5 := car_01 m d 4
      have st : dig m 3 + dig d 3 + Long.car m d 3 = dig (m + d) 3 + 65536 * Long.car m d 4 := car_step m d 3
      have a4 := Long.dig_lt d 3
      have E1 := Lib.hid (show ((dig (m + d) 3 : Nat) + 65536 - (dig m 3 : Nat) - (Long.car m d 3 : Nat) : Int) % 65536 = (dig d 3 : Nat) by omega)
      have E2 := Lib.hid (show 1 - ((dig (m + d) 3 : Nat) + 65536 - (dig m 3 : Nat) - (Long.car m d 3 : Nat) : Int) / 65536 = (Long.car m d 4 : Nat) by omega)
      have a6 : ((dig (m + d) 3 : Nat) + 65536 - (dig m 3 : Nat) - (Long.car m d 3 : Nat) : Int) / 65536 ≤ 1 := by omega
      clear st a4 a5
      unfold restW
      simp (config := { decide := true }) only [if_true, if_false, Int.cast_ofNat_Int]
      go_wp2
      go_quiet (fail)
      go_wp2
      rw [E1.out, E2.out]
      go_roundw
      case rel => exact ⟨4, by omega, rfl, rfl, _, rfl⟩
      case measure => simp [intOf]
    · have a1 := Long.dig_lt (m + d) 4
      have a2 := Long.dig_lt m 4
      have a3 := car_01 m d 4
      have a5 := car_01 m d 5
      have st : dig m 4 + dig d 4 + Long.car m d 4 = dig (m + d) 4 + 65536 * Long.car m d 5 := car_step m d 4
      have a4 := Long.dig_lt d 4
      have E1 := Lib.hid (show ((dig (m + d) 4 : Nat) + 65536 - (dig m 4 : Nat) - (Long.car m d 4 : Nat) : Int) % 65536 = (dig d 4 : Nat) by omega)
      have E2 := Lib.hid (show 1 - ((dig (m + d) 4 : Nat) + 65536 - (dig m 4 : Nat) - (Long.car m d 4 : Nat) : Int) / 65536 = (Long.car m d 5 : Nat) by omega)
      have a6 : ((dig (m + d) 4 : Nat) + 65536 - (dig m 4 : Nat) - (Long.car m d 4 : Nat) : Int) / 65536 ≤ 1 := by omega
      clear st a4 a5
      unfold restW
      simp (config := { decide := true }) only [if_true, if_false, Int.cast_ofNat_Int]
      go_wp2
      go_quiet (fail)
      go_wp2
      rw [E1.out, E2.out]
      go_roundw
      case rel => exact ⟨5, by omega, rfl, rfl, _, rfl⟩
      case measure => simp [intOf]
    · have a1 := Long.dig_lt (m + d) 5
      have a2 := Long.dig_lt m 5
      have a3 := car_01 m d 5
      have a5 := car_01 m d 6
      have st : dig m 5 + dig d 5 + Long.car m d 5 = dig (m + d) 5 + 65536 * Long.car m d 6 := car_step m d 5
      have a4 := Long.dig_lt d 5
      have E1 := Lib.hid (show ((dig (m + d) 5 : Nat) + 65536 - (dig m 5 : Nat) - (Long.car m d 5 : Nat) : Int) % 65536 = (dig d 5 : Nat) by omega)
      have E2 := Lib.hid (show 1 - ((dig (m + d) 5 : Nat) + 65536 - (dig m 5 : Nat) - (Long.car m d 5 : Nat) : Int) / 65536 = (Long.car m d 6 : Nat) by omega)
      have a6 : ((dig (m + d) 5 : Nat) + 65536 - (dig m 5 : Nat) - (Long.car m d 5 : Nat) : Int) / 65536 ≤ 1 := by omega
      clear st a4 a5
      unfold restW
      simp (config := { decide := true }) only [if_true, if_false, Int.cast_ofNat_Int]
      go_wp2
      go_quiet (fail)
      go_wp2
      rw [E1.out, E2.out]
      go_roundw
      case rel => exact ⟨6, by omega, rfl, rfl, _, rfl⟩
      case measure => simp [intOf]
    · have a1 := Long.dig_lt (m + d) 6
      have a2 := Long.dig_lt m 6
      have a3 := car_01 m d 6
      have a5 := car_01 m d 7
      have st : dig m 6 + dig d 6 + Long.car m d 6 = dig (m + d) 6 + 65536 * Long.car m d 7 := car_step m d 6
      have a4 := Long.dig_lt d 6
      have E1 := Lib.hid (show ((dig (m + d) 6 : Nat) + 65536 - (dig m 6 : Nat) - (Long.car m d 6 : Nat) : Int) % 65536 = (dig d 6 : Nat) by omega)
      have E2 := Lib.hid (show 1 - ((dig (m + d) 6 : Nat) + 65536 - (dig m 6 : Nat) - (Long.car m d 6 : Nat) : Int) / 65536 = (Long.car m d 7 : Nat) by omega)
      have a6 : ((dig (m + d) 6 : Nat) + 65536 - (dig m 6 : Nat) - (Long.car m d 6 : Nat) : Int) / 65536 ≤ 1 := by omega
      clear st a4 a5
      unfold restW
      simp (config := { decide := true }) only [if_true, if_false, Int.cast_ofNat_Int]
      go_wp2
      go_quiet (fail)
      go_wp2
      rw [E1.out, E2.out]
      go_roundw
      case rel => exact ⟨7, by omega, rfl, rfl, _, rfl⟩
      case measure => simp [intOf]
    · have a1 := Long.dig_lt (m + d) 7
      have a2 := Long.dig_lt m 7
      have a3 := car_01 m d 7
      have a5 := car_01 m d 8
      have st : dig m 7 + dig d 7 + Long.car m d 7 = dig (m + d) 7 + 65536 * Long.car m d 8 := car_step m d 7
      have a4 := Long.dig_lt d 7
      have E1 := Lib.hid (show ((dig (m + d) 7 : Nat) + 65536 - (dig m 7 : Nat) - (Long.car m d 7 : Nat) : Int) % 65536 = (dig d 7 : Nat) by omega)
      have E2 := Lib.hid (show 1 - ((dig (m + d) 7 : Nat) + 65536 - (dig m 7 : Nat) - (Long.car m d 7 : Nat) : Int) / 65536 = (Long.car m d 8 : Nat) by omega)
      have a6 : ((dig (m + d) 7 : Nat) + 65536 - (dig m 7 : Nat) - (Long.car m d 7 : Nat) : Int) / 65536 ≤ 1 := by omega
      clear st a4 a5
      unfold restW
      simp (config := { decide := true }) only [if_true, if_false, Int.cast_ofNat_Int]
      go_wp2
      go_quiet (fail)
      go_wp2
      rw [E1.out, E2.out]
      go_roundw
      case rel => exact ⟨8, by omega, rfl, rfl, _, rfl⟩
      case measure => simp [intOf]
    · have a1 := Long.dig_lt (m + d) 8
      have a2 := Long.dig_lt m 8
      have a3 := car_01 m d 8
      have a5 := car_01 m d 9
      have st : dig m 8 + dig d 8 + Long.car m d 8 = dig (m + d) 8 + 65536 * Long.car m d 9 := car_step m d 8
      have a4 := Long.dig_lt d 8
      have E1 := Lib.hid (show ((dig (m + d) 8 : Nat) + 65536 - (dig m 8 : Nat) - (Long.car m d 8 : Nat) : Int) % 65536 = (dig d 8 : Nat) by omega)
      have E2 := Lib.hid (show 1 - ((dig (m + d) 8 : Nat) + 65536 - (dig m 8 : Nat) - (Long.car m d 8 : Nat) : Int) / 65536 = (Long.car m d 9 : Nat) by omega)
      have a6 : ((dig (m + d) 8 : Nat) + 65536 - (dig m 8 : Nat) - (Long.car m d 8 : Nat) : Int) / 65536 ≤ 1 := by omega
      clear st a4 a5
      unfold restW
      simp (config := { decide := true }) only [if_true, if_false, Int.cast_ofNat_Int]
      go_wp2
      go_quiet (fail)
      go_wp2
      rw [E1.out, E2.out]
      go_roundw
      case rel => exact ⟨9, by omega, rfl, rfl, _, rfl⟩
      case measure => simp [intOf]
    · unfold restW
      simp (config := { decide := true }) only [if_true, if_false, Int.cast_ofNat_Int]
      go_wp2
      go_returns
      exact ⟨rfl, _, rfl⟩

theorem drewN3 (w : World) (a b c : Nat) : ((w.drewN a).drewN b).drewN c = w.drewN (a + (b + c)) := by rw [drewN_drewN, drewN_drewN]
theorem high_step (n k : Nat) : n / 65536 ^ k = n / 65536 ^ (k + 1) * 65536 + dig n k := by
  unfold dig
  rw [Nat.pow_succ, ← Nat.div_div_eq_div_mul]
  omega
theorem high_lt (n m k : Nat) (h : n / 65536 ^ k < m / 65536 ^ k) : n < m := by
  rcases Nat.lt_or_ge n m with c | c
  · exact c
  · have := Nat.div_le_div_right (c := 65536 ^ k) c; omega

def belowW (n m : Nat) (w : World) : World := (w.alloc (.cells #[.int .u32 (dig n 0 : Nat), .int .u32 (dig n 1 : Nat), .int .u32 (dig n 2 : Nat), .int .u32 (dig n 3 : Nat), .int .u32 (dig n 4 : Nat), .int .u32 (dig n 5 : Nat), .int .u32 (dig n 6 : Nat), .int .u32 (dig n 7 : Nat), .int .u32 (dig n 8 : Nat)] 41)).alloc (.cells #[.int .u32 (dig m 0 : Nat), .int .u32 (dig m 1 : Nat), .int .u32 (dig m 2 : Nat), .int .u32 (dig m 3 : Nat), .int .u32 (dig m 4 : Nat), .int .u32 (dig m 5 : Nat), .int .u32 (dig m 6 : Nat), .int .u32 (dig m 7 : Nat), .int .u32 (dig m 8 : Nat)] 41)
set_option maxHeartbeats 8000000 in
theorem below_any (n m : Nat) (w : World) (hn : n < 22300745198530623141535718272648361505980416) (hm : m < 22300745198530623141535718272648361505980416) :
    Calls Try.prog 37 #[.agg #[.int .u32 (dig n 0 : Nat), .int .u32 (dig n 1 : Nat), .int .u32 (dig n 2 : Nat), .int .u32 (dig n 3 : Nat), .int .u32 (dig n 4 : Nat), .int .u32 (dig n 5 : Nat), .int .u32 (dig n 6 : Nat), .int .u32 (dig n 7 : Nat), .int .u32 (dig n 8 : Nat)], .agg #[.int .u32 (dig m 0 : Nat), .int .u32 (dig m 1 : Nat), .int .u32 (dig m 2 : Nat), .int .u32 (dig m 3 : Nat), .int .u32 (dig m 4 : Nat), .int .u32 (dig m 5 : Nat), .int .u32 (dig m 6 : Nat), .int .u32 (dig m 7 : Nat), .int .u32 (dig m 8 : Nat)]] w fun e w' => e = .returned (.bool (decide (n < m))) ∧ ∃ nq, w' = ((w.alloc (.cells #[.int .u32 (dig n 0 : Nat), .int .u32 (dig n 1 : Nat), .int .u32 (dig n 2 : Nat), .int .u32 (dig n 3 : Nat), .int .u32 (dig n 4 : Nat), .int .u32 (dig n 5 : Nat), .int .u32 (dig n 6 : Nat), .int .u32 (dig n 7 : Nat), .int .u32 (dig n 8 : Nat)] 41)).alloc (.cells #[.int .u32 (dig m 0 : Nat), .int .u32 (dig m 1 : Nat), .int .u32 (dig m 2 : Nat), .int .u32 (dig m 3 : Nat), .int .u32 (dig m 4 : Nat), .int .u32 (dig m 5 : Nat), .int .u32 (dig m 6 : Nat), .int .u32 (dig m 7 : Nat), .int .u32 (dig m 8 : Nat)] 41)).drewN nq := by
  have H0 := Lib.hid (show n / 65536 ^ 9 = m / 65536 ^ 9 by simp only [Nat.reducePow]; omega)
  clear hn hm
  go_enter Try.func37, Try.ntmps37
  go_wp2
  go_loopw [5] (fun i wr => ∃ k : Nat, k ≤ 9 ∧ i = .int .i64 ((k : Int) - 1) ∧ Hid (n / 65536 ^ k = m / 65536 ^ k) ∧ ∃ nq, wr = (belowW n m w).drewN nq) (fun i _ => (1 + intOf i).toNat)
  case atStart => exact ⟨9, by omega, rfl, H0, 0, rfl⟩
  case round =>
    obtain ⟨k, hk, rfl, HK, nq, rfl⟩ := hrel
    have hk' : k = 0 ∨ k = 1 ∨ k = 2 ∨ k = 3 ∨ k = 4 ∨ k = 5 ∨ k = 6 ∨ k = 7 ∨ k = 8 ∨ k = 9 := by omega
    clear hk H0
    rcases hk' with rfl | rfl | rfl | rfl | rfl | rfl | rfl | rfl | rfl | rfl
    · have e : n = m := by have := HK.out; simpa using this
      subst e
      unfold belowW
      simp only [Int.cast_ofNat_Int, Int.reduceSub]
      go_wp2
      go_returns
      exact ⟨ret_bool (by simp), _, rfl⟩
    · have s1 : n / 65536 ^ 0 = n / 65536 ^ 1 * 65536 + dig n 0 := high_step n 0
      have s2 : m / 65536 ^ 0 = m / 65536 ^ 1 * 65536 + dig m 0 := high_step m 0
      have hK := HK.out
      rw [← hK] at s2
      by_cases c : dig n 0 = dig m 0
      · have HN := Lib.hid (show n / 65536 ^ 0 = m / 65536 ^ 0 by rw [s1, s2, c])
        have d1 : ((dig n 0 : Int) != (dig m 0 : Int)) = false := by simp [c]
        clear s1 s2 hK c HK
        unfold belowW
        simp only [Int.cast_ofNat_Int, Int.reduceSub]
        go_wp2
        go_quiet (fail)
        go_wp2
        go_roundw
        case rel => exact ⟨0, by omega, rfl, HN, _, rfl⟩
        case measure => simp [intOf]
      · have d1 : ((dig n 0 : Int) != (dig m 0 : Int)) = true := by simp; omega
        have R := Lib.hid (show decide ((dig n 0 : Int) < (dig m 0 : Int)) = decide (n < m) by
          by_cases c2 : dig n 0 < dig m 0
          · have := high_lt n m 0 (by rw [s1, s2]; omega)
            simp [this, c2]
          · have := high_lt m n 0 (by rw [s1, s2]; omega)
            simp; omega)
        clear s1 s2 hK c HK
        unfold belowW
        simp only [Int.cast_ofNat_Int, Int.reduceSub]
        go_wp2
        go_quiet (fail)
        go_wp2
        go_quiet (fail)
        go_wp2
        go_returns
        exact ⟨ret_bool (by simpa using R.out), _, drewN3 _ _ _ _⟩
    · have s1 : n / 65536 ^ 1 = n / 65536 ^ 2 * 65536 + dig n 1 := high_step n 1
      have s2 : m / 65536 ^ 1 = m / 65536 ^ 2 * 65536 + dig m 1 := high_step m 1
      have hK := HK.out
      rw [← hK] at s2
      by_cases c : dig n 1 = dig m 1
      · have HN := Lib.hid (show n / 65536 ^ 1 = m / 65536 ^ 1 by rw [s1, s2, c])
        have d1 : ((dig n 1 : Int) != (dig m 1 : Int)) = false := by simp [c]
        clear s1 s2 hK c HK
        unfold belowW
        simp only [Int.cast_ofNat_Int, Int.reduceSub]
        go_wp2
        go_quiet (fail)
        go_wp2
        go_roundw
        case rel => exact ⟨1, by omega, rfl, HN, _, rfl⟩
        case measure => simp [intOf]
      · have d1 : ((dig n 1 : Int) != (dig m 1 : Int)) = true := by simp; omega
        have R := Lib.hid (show decide ((dig n 1 : Int) < (dig m 1 : Int)) = decide (n < m) by
          by_cases c2 : dig n 1 < dig m 1
          · have := high_lt n m 1 (by rw [s1, s2]; omega)
            simp [this, c2]
          · have := high_lt m n 1 (by rw [s1, s2]; omega)
            simp; omega)
        clear s1 s2 hK c HK
        unfold belowW
        simp only [Int.cast_ofNat_Int, Int.reduceSub]
        go_wp2
        go_quiet (fail)
        go_wp2
        go_quiet (fail)
        go_wp2
        go_returns
        exact ⟨ret_bool (by simpa using R.out), _, drewN3 _ _ _ _⟩
    · have s1 : n / 65536 ^ 2 = n / 65536 ^ 3 * 65536 + dig n 2 := high_step n 2
      have s2 : m / 65536 ^ 2 = m / 65536 ^ 3 * 65536 + dig m 2 := high_step m 2
      have hK := HK.out
      rw [← hK] at s2
      by_cases c : dig n 2 = dig m 2
      · have HN := Lib.hid (show n / 65536 ^ 2 = m / 65536 ^ 2 by rw [s1, s2, c])
        have d1 : ((dig n 2 : Int) != (dig m 2 : Int)) = false := by simp [c]
        clear s1 s2 hK c HK
        unfold belowW
        simp only [Int.cast_ofNat_Int, Int.reduceSub]
        go_wp2
        go_quiet (fail)
        go_wp2
        go_roundw
        case rel => exact ⟨2, by omega, rfl, HN, _, rfl⟩
        case measure => simp [intOf]
      · have d1 : ((dig n 2 : Int) != (dig m 2 : Int)) = true := by simp; omega
        have R := Lib.hid (show decide ((dig n 2 : Int) < (dig m 2 : Int)) = decide (n < m) by
          by_cases c2 : dig n 2 < dig m 2
          · have := high_lt n m 2 (by rw [s1, s2]; omega)
            simp [this, c2]
          · have := high_lt m n 2 (by rw [s1, s2]; omega)
            simp; omega)
        clear s1 s2 hK c HK
        unfold belowW
        simp only [Int.cast_ofNat_Int, Int.reduceSub]
        go_wp2
        go_quiet (fail)
        go_wp2
        go_quiet (fail)
        go_wp2
        go_returns
        exact ⟨ret_bool (by simpa using R.out), _, drewN3 _ _ _ _⟩
    · have s1 : n / 65536 ^ 3 = n / 65536 ^ 4 * 65536 + dig n 3 := high_step n 3
      have s2 : m / 65536 ^ 3 = m / 65536 ^ 4 * 65536 + dig m 3 := high_step m 3
      have hK := HK.out
      rw [← hK] at s2
      by_cases c : dig n 3 = dig m 3
      · have HN := Lib.hid (show n / 65536 ^ 3 = m / 65536 ^ 3 by rw [s1, s2, c])
        have d1 : ((dig n 3 : Int) != (dig m 3 : Int)) = false := by simp [c]
        clear s1 s2 hK c HK
        unfold belowW
        simp only [Int.cast_ofNat_Int, Int.reduceSub]
        go_wp2
        go_quiet (fail)
        go_wp2
        go_roundw
        case rel => exact ⟨3, by omega, rfl, HN, _, rfl⟩
        case measure => simp [intOf]
      · have d1 : ((dig n 3 : Int) != (dig m 3 : Int)) = true := by simp; omega
        have R := Lib.hid (show decide ((dig n 3 : Int) < (dig m 3 : Int)) = decide (n < m) by
          by_cases c2 : dig n 3 < dig m 3
          · have := high_lt n m 3 (by rw [s1, s2]; omega)
            simp [this, c2]
          · have := high_lt m n 3 (by rw [s1, s2]; omega)
            simp; omega)
        clear s1 s2 hK c HK
        unfold belowW
        simp only [Int.cast_ofNat_Int, Int.reduceSub]
        go_wp2
        go_quiet (fail)
        go_wp2
        go_quiet (fail)
        go_wp2
        go_returns
        exact ⟨ret_bool (by simpa using R.out), _, drewN3 _ _ _ _⟩
    · have s1 : n / 65536 ^ 4 = n / 65536 ^ 5 * 65536 + dig n 4 := high_step n 4
      have s2 : m / 65536 ^ 4 = m / 65536 ^ 5 * 65536 + dig m 4 := high_step m 4
      have hK := HK.out
      rw [← hK] at s2
      by_cases c : dig n 4 = dig m 4
      · have HN := Lib.hid (show n / 65536 ^ 4 = m / 65536 ^ 4 by rw [s1, s2, c])
        have d1 : ((dig n 4 : Int) != (dig m 4 : Int)) = false := by simp [c]
        clear s1 s2 hK c HK
        unfold belowW
        simp only [Int.cast_ofNat_Int, Int.reduceSub]
        go_wp2
        go_quiet (fail)
        go_wp2
        go_roundw
        case rel => exact ⟨4, by omega, rfl, HN, _, rfl⟩
        case measure => simp [intOf]
      · have d1 : ((dig n 4 : Int) != (dig m 4 : Int)) = true := by simp; omega
        have R := Lib.hid (show decide ((dig n 4 : Int) < (dig m 4 : Int)) = decide (n < m) by
          by_cases c2 : dig n 4 < dig m 4
          · have := high_lt n m 4 (by rw [s1, s2]; omega)
            simp [this, c2]
          · have := high_lt m n 4 (by rw [s1, s2]; omega)
            simp; omega)
        clear s1 s2 hK c HK
        unfold belowW
        simp only [Int.cast_ofNat_Int, Int.reduceSub]
        go_wp2
        go_quiet (fail)
        go_wp2
        go_quiet (fail)
        go_wp2
        go_returns
        exact ⟨ret_bool (by simpa using R.out), _, drewN3 _ _ _ _⟩
    · have s1 : n / 65536 ^ 5 = n / 65536 ^ 6 * 65536 + dig n 5 := high_step n 5
      have s2 : m / 65536 ^ 5 = m / 65536 ^ 6 * 65536 + dig m 5 := high_step m 5
      have hK := HK.out
      rw [← hK] at s2
      by_cases c : dig n 5 = dig m 5
      · have HN := Lib.hid (show n / 65536 ^ 5 = m / 65536 ^ 5 by rw [s1, s2, c])
        have d1 : ((dig n 5 : Int) != (dig m 5 : Int)) = false := by simp [c]
        clear s1 s2 hK c HK
        unfold belowW
        simp only [Int.cast_ofNat_Int, Int.reduceSub]
        go_wp2
        go_quiet (fail)
        go_wp2
        go_roundw
        case rel => exact ⟨5, by omega, rfl, HN, _, rfl⟩
        case measure => simp [intOf]
      · have d1 : ((dig n 5 : Int) != (dig m 5 : Int)) = true := by simp; omega
        have R := Lib.hid (show decide ((dig n 5 : Int) < (dig m 5 : Int)) = decide (n < m) by
          by_cases c2 : dig n 5 < dig m 5
          · have := high_lt n m 5 (by rw [s1, s2]; omega)
            simp [this, c2]
          · have := high_lt m n 5 (by rw [s1, s2]; omega)
            simp; omega)
        clear s1 s2 hK c HK
        unfold belowW
        simp only [Int.cast_ofNat_Int, Int.reduceSub]
        go_wp2
        go_quiet (fail)
        go_wp2
        go_quiet (fail)
        go_wp2
        go_returns
        exact ⟨ret_bool (by simpa using R.out), _, drewN3 _ _ _ _⟩
    · have s1 : n / 65536 ^ 6 = n / 65536 ^ 7 * 65536 + dig n 6 := high_step n 6
      have s2 : m / 65536 ^ 6 = m / 65536 ^ 7 * 65536 + dig m 6 := high_step m 6
      have hK := HK.out
      rw [← hK] at s2
      by_cases c : dig n 6 = dig m 6
      · have HN := Lib.hid (show n / 65536 ^ 6 = m / 65536 ^ 6 by rw [s1, s2, c])
        have d1 : ((dig n 6 : Int) != (dig m 6 : Int)) = false := by simp [c]
        clear s1 s2 hK c HK
        unfold belowW
        simp only [Int.cast_ofNat_Int, Int.reduceSub]
        go_wp2
        go_quiet (fail)
        go_wp2
        go_roundw
        case rel => exact ⟨6, by omega, rfl, HN, _, rfl⟩
        case measure => simp [intOf]
      · have d1 : ((dig n 6 : Int) != (dig m 6 : Int)) = true := by simp; omega
        have R := Lib.hid (show decide ((dig n 6 : Int) < (dig m 6 : Int)) = decide (n < m) by
          by_cases c2 : dig n 6 < dig m 6
          · have := high_lt n m 6 (by rw [s1, s2]; omega)
            simp [this, c2]
          · have := high_lt m n 6 (by rw [s1, s2]; omega)
            simp; omega)
        clear s1 s2 hK c HK
        unfold belowW
        simp only [Int.cast_ofNat_Int, Int.reduceSub]
        go_wp2
        go_quiet (fail)
        go_wp2
        go_quiet (fail)
        go_wp2
        go_returns
        exact ⟨ret_bool (by simpa using R.out), _, drewN3 _ _ _ _⟩
    · have s1 : n / 65536 ^ 7 = n / 65536 ^ 8 * 65536 + dig n 7 := high_step n 7
      have s2 : m / 65536 ^ 7 = m / 65536 ^ 8 * 65536 + dig m 7 := high_step m 7
      have hK := HK.out
      rw [← hK] at s2
      by_cases c : dig n 7 = dig m 7
      · have HN := Lib.hid (show n / 65536 ^ 7 = m / 65536 ^ 7 by rw [s1, s2, c])
        have d1 : ((dig n 7 : Int) != (dig m 7 : Int)) = false := by simp [c]
        clear s1 s2 hK c HK
        unfold belowW
        simp only [Int.cast_ofNat_Int, Int.reduceSub]
        go_wp2
        go_quiet (fail)
        go_wp2
        go_roundw
        case rel => exact ⟨7, by omega, rfl, HN, _, rfl⟩
        case measure => simp [intOf]
      · have d1 : ((dig n 7 : Int) != (dig m 7 : Int)) = true := by simp; omega
        have R := Lib.hid (show decide ((dig n 7 : Int) < (dig m 7 : Int)) = decide (n < m) by
          by_cases c2 : dig n 7 < dig m 7
          · have := high_lt n m 7 (by rw [s1, s2]; omega)
            simp [this, c2]
          · have := high_lt m n 7 (by rw [s1, s2]; omega)
            simp; omega)
        clear s1 s2 hK c HK
        unfold belowW
        simp only [Int.cast_ofNat_Int, Int.reduceSub]
        go_wp2
        go_quiet (fail)
        go_wp2
        go_quiet (fail)
        go_wp2
        go_returns
        exact ⟨ret_bool (by simpa using R.out), _, drewN3 _ _ _ _⟩
    · have s1 : n / 65536 ^ 8 = n / 65536 ^ 9 * 65536 + dig n 8 := high_step n 8
      have s2 : m / 65536 ^ 8 = m / 65536 ^ 9 * 65536 + dig m 8 := high_step m 8
      have hK := HK.out
      rw [← hK] at s2
      by_cases c : dig n 8 = dig m 8
      · have HN := Lib.hid (show n / 65536 ^ 8 = m / 65536 ^ 8 by rw [s1, s2, c])
        have d1 : ((dig n 8 : Int) != (dig m 8 : Int)) = false := by simp [c]
        clear s1 s2 hK c HK
        unfold belowW
        simp only [Int.cast_ofNat_Int, Int.reduceSub]
        go_wp2
        go_quiet (fail)
        go_wp2
        go_roundw
        case rel => exact ⟨8, by omega, rfl, HN, _, rfl⟩
        case measure => simp [intOf]
      · have d1 : ((dig n 8 : Int) != (dig m 8 : Int)) = true := by simp; omega
        have R := Lib.hid (show decide ((dig n 8 : Int) < (dig m 8 : Int)) = decide (n < m) by
          by_cases c2 : dig n 8 < dig m 8
          · have := high_lt n m 8 (by rw [s1, s2]; omega)
            simp [this, c2]
          · have := high_lt m n 8 (by rw [s1, s2]; omega)
            simp; omega)
        clear s1 s2 hK c HK
        unfold belowW
        simp only [Int.cast_ofNat_Int, Int.reduceSub]
        go_wp2
        go_quiet (fail)
        go_wp2
        go_quiet (fail)
        go_wp2
        go_returns
        exact ⟨ret_bool (by simpa using R.out), _, drewN3 _ _ _ _⟩
end Go.Proofs.Ytplbdfdpcgmcjaa
