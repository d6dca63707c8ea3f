/- Contracts of the document's own answer for layer 1: products of long numbers. -/
import Derived.Test.YtplbdfdpcgmcjaaRefF
import Derived.Test.YtplbdfdpcgmcjaaLong2
import Derived.BigRegion
namespace Go.Proofs.Ytplbdfdpcgmcjaa
set_option linter.unusedVariables false
set_option linter.unusedSimpArgs false
open Go.ChangeShapes Go.WideShapes Go.ChangeAt Go.RowKit
open Long (dig)
attribute [local go_sem] setCell_drewN

/-- What has been gathered so far, in a block of ten cells. -/
structure Out (B : Nat) (u : Bool) (p : Nat) (w : World) : Prop where
  c0 : w.cell? ⟨B, 0, none⟩ = some (.bool u)
  c1 : w.cell? ⟨B, 1, none⟩ = some (.int .u32 (dig p 0 : Nat))
  c2 : w.cell? ⟨B, 2, none⟩ = some (.int .u32 (dig p 1 : Nat))
  c3 : w.cell? ⟨B, 3, none⟩ = some (.int .u32 (dig p 2 : Nat))
  c4 : w.cell? ⟨B, 4, none⟩ = some (.int .u32 (dig p 3 : Nat))
  c5 : w.cell? ⟨B, 5, none⟩ = some (.int .u32 (dig p 4 : Nat))
  c6 : w.cell? ⟨B, 6, none⟩ = some (.int .u32 (dig p 5 : Nat))
  c7 : w.cell? ⟨B, 7, none⟩ = some (.int .u32 (dig p 6 : Nat))
  c8 : w.cell? ⟨B, 8, none⟩ = some (.int .u32 (dig p 7 : Nat))
  c9 : w.cell? ⟨B, 9, none⟩ = some (.int .u32 (dig p 8 : Nat))
  f0 : w.frozen? ⟨B, 0, none⟩ = false
  f1 : w.frozen? ⟨B, 1, none⟩ = false
  f2 : w.frozen? ⟨B, 2, none⟩ = false
  f3 : w.frozen? ⟨B, 3, none⟩ = false
  f4 : w.frozen? ⟨B, 4, none⟩ = false
  f5 : w.frozen? ⟨B, 5, none⟩ = false
  f6 : w.frozen? ⟨B, 6, none⟩ = false
  f7 : w.frozen? ⟨B, 7, none⟩ = false
  f8 : w.frozen? ⟨B, 8, none⟩ = false
  f9 : w.frozen? ⟨B, 9, none⟩ = false

theorem p4 : (65536 : Nat) ^ 4 = 18446744073709551616 := by decide
theorem row_is (n m i : Nat) (hm : m < 18446744073709551616) : dig n i * m < 65536 ^ 5 := by
  have h := Long.dig_lt n i
  have : dig n i * m ≤ 65535 * 18446744073709551616 := Nat.mul_le_mul (by omega) (by omega)
  have e : (65536 : Nat) ^ 5 = 1208925819614629174706176 := by decide
  omega
theorem row_0 (n m : Nat) (hm : m < 18446744073709551616) (w : World) : Calls Try.prog 42 #[.agg #[.int .u32 (dig (n % 65536 ^ 0 * m) 0 : Nat), .int .u32 (dig (n % 65536 ^ 0 * m) 1 : Nat), .int .u32 (dig (n % 65536 ^ 0 * m) 2 : Nat), .int .u32 (dig (n % 65536 ^ 0 * m) 3 : Nat), .int .u32 (dig (n % 65536 ^ 0 * m) 4 : Nat), .int .u32 (dig (n % 65536 ^ 0 * m) 5 : Nat), .int .u32 (dig (n % 65536 ^ 0 * m) 6 : Nat), .int .u32 (dig (n % 65536 ^ 0 * m) 7 : Nat), .int .u32 (dig (n % 65536 ^ 0 * m) 8 : Nat)], .agg #[.int .u32 (dig (dig n 0 * m) 0 : Nat), .int .u32 (dig (dig n 0 * m) 1 : Nat), .int .u32 (dig (dig n 0 * m) 2 : Nat), .int .u32 (dig (dig n 0 * m) 3 : Nat), .int .u32 (dig (dig n 0 * m) 4 : Nat), .int .u32 0, .int .u32 0, .int .u32 0, .int .u32 0]] w fun e w' => e = .returned (.agg #[.int .u32 (dig (n % 65536 ^ 1 * m) 0 : Nat), .int .u32 (dig (n % 65536 ^ 1 * m) 1 : Nat), .int .u32 (dig (n % 65536 ^ 1 * m) 2 : Nat), .int .u32 (dig (n % 65536 ^ 1 * m) 3 : Nat), .int .u32 (dig (n % 65536 ^ 1 * m) 4 : Nat), .int .u32 (dig (n % 65536 ^ 1 * m) 5 : Nat), .int .u32 (dig (n % 65536 ^ 1 * m) 6 : Nat), .int .u32 (dig (n % 65536 ^ 1 * m) 7 : Nat), .int .u32 (dig (n % 65536 ^ 1 * m) 8 : Nat)]) ∧ Below w.heap.size w w' := by
  have h := more_below (n % 65536 ^ 0 * m) (dig n 0 * m * 65536 ^ 0) w
  rw [← Long.more_digit] at h
  rw [show dig (dig n 0 * m * 65536 ^ 0) 0 = dig (dig n 0 * m) 0 from Long.dig_shift _ 0 0] at h
  rw [show dig (dig n 0 * m * 65536 ^ 0) 1 = dig (dig n 0 * m) 1 from Long.dig_shift _ 0 1] at h
  rw [show dig (dig n 0 * m * 65536 ^ 0) 2 = dig (dig n 0 * m) 2 from Long.dig_shift _ 0 2] at h
  rw [show dig (dig n 0 * m * 65536 ^ 0) 3 = dig (dig n 0 * m) 3 from Long.dig_shift _ 0 3] at h
  rw [show dig (dig n 0 * m * 65536 ^ 0) 4 = dig (dig n 0 * m) 4 from Long.dig_shift _ 0 4] at h
  rw [show dig (dig n 0 * m * 65536 ^ 0) 5 = dig (dig n 0 * m) 5 from Long.dig_shift _ 0 5] at h
  rw [Long.dig_none (dig n 0 * m) 5 (Nat.lt_of_lt_of_le (row_is n m 0 hm) (Nat.pow_le_pow_right (by omega) (by omega)))] at h
  rw [show dig (dig n 0 * m * 65536 ^ 0) 6 = dig (dig n 0 * m) 6 from Long.dig_shift _ 0 6] at h
  rw [Long.dig_none (dig n 0 * m) 6 (Nat.lt_of_lt_of_le (row_is n m 0 hm) (Nat.pow_le_pow_right (by omega) (by omega)))] at h
  rw [show dig (dig n 0 * m * 65536 ^ 0) 7 = dig (dig n 0 * m) 7 from Long.dig_shift _ 0 7] at h
  rw [Long.dig_none (dig n 0 * m) 7 (Nat.lt_of_lt_of_le (row_is n m 0 hm) (Nat.pow_le_pow_right (by omega) (by omega)))] at h
  rw [show dig (dig n 0 * m * 65536 ^ 0) 8 = dig (dig n 0 * m) 8 from Long.dig_shift _ 0 8] at h
  rw [Long.dig_none (dig n 0 * m) 8 (Nat.lt_of_lt_of_le (row_is n m 0 hm) (Nat.pow_le_pow_right (by omega) (by omega)))] at h
  exact h
theorem row_1 (n m : Nat) (hm : m < 18446744073709551616) (w : World) : Calls Try.prog 42 #[.agg #[.int .u32 (dig (n % 65536 ^ 1 * m) 0 : Nat), .int .u32 (dig (n % 65536 ^ 1 * m) 1 : Nat), .int .u32 (dig (n % 65536 ^ 1 * m) 2 : Nat), .int .u32 (dig (n % 65536 ^ 1 * m) 3 : Nat), .int .u32 (dig (n % 65536 ^ 1 * m) 4 : Nat), .int .u32 (dig (n % 65536 ^ 1 * m) 5 : Nat), .int .u32 (dig (n % 65536 ^ 1 * m) 6 : Nat), .int .u32 (dig (n % 65536 ^ 1 * m) 7 : Nat), .int .u32 (dig (n % 65536 ^ 1 * m) 8 : Nat)], .agg #[.int .u32 0, .int .u32 (dig (dig n 1 * m) 0 : Nat), .int .u32 (dig (dig n 1 * m) 1 : Nat), .int .u32 (dig (dig n 1 * m) 2 : Nat), .int .u32 (dig (dig n 1 * m) 3 : Nat), .int .u32 (dig (dig n 1 * m) 4 : Nat), .int .u32 0, .int .u32 0, .int .u32 0]] w fun e w' => e = .returned (.agg #[.int .u32 (dig (n % 65536 ^ 2 * m) 0 : Nat), .int .u32 (dig (n % 65536 ^ 2 * m) 1 : Nat), .int .u32 (dig (n % 65536 ^ 2 * m) 2 : Nat), .int .u32 (dig (n % 65536 ^ 2 * m) 3 : Nat), .int .u32 (dig (n % 65536 ^ 2 * m) 4 : Nat), .int .u32 (dig (n % 65536 ^ 2 * m) 5 : Nat), .int .u32 (dig (n % 65536 ^ 2 * m) 6 : Nat), .int .u32 (dig (n % 65536 ^ 2 * m) 7 : Nat), .int .u32 (dig (n % 65536 ^ 2 * m) 8 : Nat)]) ∧ Below w.heap.size w w' := by
  have h := more_below (n % 65536 ^ 1 * m) (dig n 1 * m * 65536 ^ 1) w
  rw [← Long.more_digit] at h
  rw [Long.dig_low (dig n 1 * m) 1 0 (by omega)] at h
  rw [show dig (dig n 1 * m * 65536 ^ 1) 1 = dig (dig n 1 * m) 0 from Long.dig_shift _ 1 0] at h
  rw [show dig (dig n 1 * m * 65536 ^ 1) 2 = dig (dig n 1 * m) 1 from Long.dig_shift _ 1 1] at h
  rw [show dig (dig n 1 * m * 65536 ^ 1) 3 = dig (dig n 1 * m) 2 from Long.dig_shift _ 1 2] at h
  rw [show dig (dig n 1 * m * 65536 ^ 1) 4 = dig (dig n 1 * m) 3 from Long.dig_shift _ 1 3] at h
  rw [show dig (dig n 1 * m * 65536 ^ 1) 5 = dig (dig n 1 * m) 4 from Long.dig_shift _ 1 4] at h
  rw [show dig (dig n 1 * m * 65536 ^ 1) 6 = dig (dig n 1 * m) 5 from Long.dig_shift _ 1 5] at h
  rw [Long.dig_none (dig n 1 * m) 5 (Nat.lt_of_lt_of_le (row_is n m 1 hm) (Nat.pow_le_pow_right (by omega) (by omega)))] at h
  rw [show dig (dig n 1 * m * 65536 ^ 1) 7 = dig (dig n 1 * m) 6 from Long.dig_shift _ 1 6] at h
  rw [Long.dig_none (dig n 1 * m) 6 (Nat.lt_of_lt_of_le (row_is n m 1 hm) (Nat.pow_le_pow_right (by omega) (by omega)))] at h
  rw [show dig (dig n 1 * m * 65536 ^ 1) 8 = dig (dig n 1 * m) 7 from Long.dig_shift _ 1 7] at h
  rw [Long.dig_none (dig n 1 * m) 7 (Nat.lt_of_lt_of_le (row_is n m 1 hm) (Nat.pow_le_pow_right (by omega) (by omega)))] at h
  exact h
theorem row_2 (n m : Nat) (hm : m < 18446744073709551616) (w : World) : Calls Try.prog 42 #[.agg #[.int .u32 (dig (n % 65536 ^ 2 * m) 0 : Nat), .int .u32 (dig (n % 65536 ^ 2 * m) 1 : Nat), .int .u32 (dig (n % 65536 ^ 2 * m) 2 : Nat), .int .u32 (dig (n % 65536 ^ 2 * m) 3 : Nat), .int .u32 (dig (n % 65536 ^ 2 * m) 4 : Nat), .int .u32 (dig (n % 65536 ^ 2 * m) 5 : Nat), .int .u32 (dig (n % 65536 ^ 2 * m) 6 : Nat), .int .u32 (dig (n % 65536 ^ 2 * m) 7 : Nat), .int .u32 (dig (n % 65536 ^ 2 * m) 8 : Nat)], .agg #[.int .u32 0, .int .u32 0, .int .u32 (dig (dig n 2 * m) 0 : Nat), .int .u32 (dig (dig n 2 * m) 1 : Nat), .int .u32 (dig (dig n 2 * m) 2 : Nat), .int .u32 (dig (dig n 2 * m) 3 : Nat), .int .u32 (dig (dig n 2 * m) 4 : Nat), .int .u32 0, .int .u32 0]] w fun e w' => e = .returned (.agg #[.int .u32 (dig (n % 65536 ^ 3 * m) 0 : Nat), .int .u32 (dig (n % 65536 ^ 3 * m) 1 : Nat), .int .u32 (dig (n % 65536 ^ 3 * m) 2 : Nat), .int .u32 (dig (n % 65536 ^ 3 * m) 3 : Nat), .int .u32 (dig (n % 65536 ^ 3 * m) 4 : Nat), .int .u32 (dig (n % 65536 ^ 3 * m) 5 : Nat), .int .u32 (dig (n % 65536 ^ 3 * m) 6 : Nat), .int .u32 (dig (n % 65536 ^ 3 * m) 7 : Nat), .int .u32 (dig (n % 65536 ^ 3 * m) 8 : Nat)]) ∧ Below w.heap.size w w' := by
  have h := more_below (n % 65536 ^ 2 * m) (dig n 2 * m * 65536 ^ 2) w
  rw [← Long.more_digit] at h
  rw [Long.dig_low (dig n 2 * m) 2 0 (by omega)] at h
  rw [Long.dig_low (dig n 2 * m) 2 1 (by omega)] at h
  rw [show dig (dig n 2 * m * 65536 ^ 2) 2 = dig (dig n 2 * m) 0 from Long.dig_shift _ 2 0] at h
  rw [show dig (dig n 2 * m * 65536 ^ 2) 3 = dig (dig n 2 * m) 1 from Long.dig_shift _ 2 1] at h
  rw [show dig (dig n 2 * m * 65536 ^ 2) 4 = dig (dig n 2 * m) 2 from Long.dig_shift _ 2 2] at h
  rw [show dig (dig n 2 * m * 65536 ^ 2) 5 = dig (dig n 2 * m) 3 from Long.dig_shift _ 2 3] at h
  rw [show dig (dig n 2 * m * 65536 ^ 2) 6 = dig (dig n 2 * m) 4 from Long.dig_shift _ 2 4] at h
  rw [show dig (dig n 2 * m * 65536 ^ 2) 7 = dig (dig n 2 * m) 5 from Long.dig_shift _ 2 5] at h
  rw [Long.dig_none (dig n 2 * m) 5 (Nat.lt_of_lt_of_le (row_is n m 2 hm) (Nat.pow_le_pow_right (by omega) (by omega)))] at h
  rw [show dig (dig n 2 * m * 65536 ^ 2) 8 = dig (dig n 2 * m) 6 from Long.dig_shift _ 2 6] at h
  rw [Long.dig_none (dig n 2 * m) 6 (Nat.lt_of_lt_of_le (row_is n m 2 hm) (Nat.pow_le_pow_right (by omega) (by omega)))] at h
  exact h
theorem row_3 (n m : Nat) (hm : m < 18446744073709551616) (w : World) : Calls Try.prog 42 #[.agg #[.int .u32 (dig (n % 65536 ^ 3 * m) 0 : Nat), .int .u32 (dig (n % 65536 ^ 3 * m) 1 : Nat), .int .u32 (dig (n % 65536 ^ 3 * m) 2 : Nat), .int .u32 (dig (n % 65536 ^ 3 * m) 3 : Nat), .int .u32 (dig (n % 65536 ^ 3 * m) 4 : Nat), .int .u32 (dig (n % 65536 ^ 3 * m) 5 : Nat), .int .u32 (dig (n % 65536 ^ 3 * m) 6 : Nat), .int .u32 (dig (n % 65536 ^ 3 * m) 7 : Nat), .int .u32 (dig (n % 65536 ^ 3 * m) 8 : Nat)], .agg #[.int .u32 0, .int .u32 0, .int .u32 0, .int .u32 (dig (dig n 3 * m) 0 : Nat), .int .u32 (dig (dig n 3 * m) 1 : Nat), .int .u32 (dig (dig n 3 * m) 2 : Nat), .int .u32 (dig (dig n 3 * m) 3 : Nat), .int .u32 (dig (dig n 3 * m) 4 : Nat), .int .u32 0]] w fun e w' => e = .returned (.agg #[.int .u32 (dig (n % 65536 ^ 4 * m) 0 : Nat), .int .u32 (dig (n % 65536 ^ 4 * m) 1 : Nat), .int .u32 (dig (n % 65536 ^ 4 * m) 2 : Nat), .int .u32 (dig (n % 65536 ^ 4 * m) 3 : Nat), .int .u32 (dig (n % 65536 ^ 4 * m) 4 : Nat), .int .u32 (dig (n % 65536 ^ 4 * m) 5 : Nat), .int .u32 (dig (n % 65536 ^ 4 * m) 6 : Nat), .int .u32 (dig (n % 65536 ^ 4 * m) 7 : Nat), .int .u32 (dig (n % 65536 ^ 4 * m) 8 : Nat)]) ∧ Below w.heap.size w w' := by
  have h := more_below (n % 65536 ^ 3 * m) (dig n 3 * m * 65536 ^ 3) w
  rw [← Long.more_digit] at h
  rw [Long.dig_low (dig n 3 * m) 3 0 (by omega)] at h
  rw [Long.dig_low (dig n 3 * m) 3 1 (by omega)] at h
  rw [Long.dig_low (dig n 3 * m) 3 2 (by omega)] at h
  rw [show dig (dig n 3 * m * 65536 ^ 3) 3 = dig (dig n 3 * m) 0 from Long.dig_shift _ 3 0] at h
  rw [show dig (dig n 3 * m * 65536 ^ 3) 4 = dig (dig n 3 * m) 1 from Long.dig_shift _ 3 1] at h
  rw [show dig (dig n 3 * m * 65536 ^ 3) 5 = dig (dig n 3 * m) 2 from Long.dig_shift _ 3 2] at h
  rw [show dig (dig n 3 * m * 65536 ^ 3) 6 = dig (dig n 3 * m) 3 from Long.dig_shift _ 3 3] at h
  rw [show dig (dig n 3 * m * 65536 ^ 3) 7 = dig (dig n 3 * m) 4 from Long.dig_shift _ 3 4] at h
  rw [show dig (dig n 3 * m * 65536 ^ 3) 8 = dig (dig n 3 * m) 5 from Long.dig_shift _ 3 5] at h
  rw [Long.dig_none (dig n 3 * m) 5 (Nat.lt_of_lt_of_le (row_is n m 3 hm) (Nat.pow_le_pow_right (by omega) (by omega)))] at h
  exact h

set_option maxRecDepth 100000 in
set_option maxHeartbeats 20000000 in
theorem product_any (s t u : Bool) (hu : (!(s == t)) = u) (n m : Nat) (w : World) (hn : n < 18446744073709551616) (hm : m < 18446744073709551616) :
    Calls Try.prog 36 #[.agg #[.bool s, .int .u32 (dig n 0 : Nat), .int .u32 (dig n 1 : Nat), .int .u32 (dig n 2 : Nat), .int .u32 (dig n 3 : Nat), .int .u32 (dig n 4 : Nat), .int .u32 (dig n 5 : Nat), .int .u32 (dig n 6 : Nat), .int .u32 (dig n 7 : Nat), .int .u32 (dig n 8 : Nat)], .agg #[.bool t, .int .u32 (dig m 0 : Nat), .int .u32 (dig m 1 : Nat), .int .u32 (dig m 2 : Nat), .int .u32 (dig m 3 : Nat), .int .u32 (dig m 4 : Nat), .int .u32 (dig m 5 : Nat), .int .u32 (dig m 6 : Nat), .int .u32 (dig m 7 : Nat), .int .u32 (dig m 8 : Nat)]] w fun e w' => e = .returned (.agg #[.bool u, .int .u32 (dig (n * m) 0 : Nat), .int .u32 (dig (n * m) 1 : Nat), .int .u32 (dig (n * m) 2 : Nat), .int .u32 (dig (n * m) 3 : Nat), .int .u32 (dig (n * m) 4 : Nat), .int .u32 (dig (n * m) 5 : Nat), .int .u32 (dig (n * m) 6 : Nat), .int .u32 (dig (n * m) 7 : Nat), .int .u32 (dig (n * m) 8 : Nat)]) ∧ Below w.heap.size w w' := by
  have M0 := Lib.hid (fun w => row_0 n m hm w)
  have M1 := Lib.hid (fun w => row_1 n m hm w)
  have M2 := Lib.hid (fun w => row_2 n m hm w)
  have M3 := Lib.hid (fun w => row_3 n m hm w)
  have HN := Lib.hid (show n % 65536 ^ 4 * m = n * m by rw [Nat.mod_eq_of_lt (by rw [p4]; exact hn)])
  have ST := Lib.hid (fun i k => Long.mstep (dig n i) m k)
  have LE := Lib.hid (fun i k => Long.mcar_le (dig n i) m k)
  have D4 := Lib.hid (Long.dig_none m 4 (by rw [p4]; exact hm))
  clear hn hm
  go_enter Try.func36, Try.ntmps36
  go_wp2
  go_loopw [6] (fun ii wr => (ii = .int .i64 0 ∧ Hid (Out (w.heap.size + 1 + 1 + 1) u (n % 65536 ^ 0 * m) wr) ∧ Hid (Below (w.heap.size + 1 + 1 + 1) ((((w.alloc (.cells #[.bool s, .int .u32 (dig n 0 : Nat), .int .u32 (dig n 1 : Nat), .int .u32 (dig n 2 : Nat), .int .u32 (dig n 3 : Nat), .int .u32 (dig n 4 : Nat), .int .u32 (dig n 5 : Nat), .int .u32 (dig n 6 : Nat), .int .u32 (dig n 7 : Nat), .int .u32 (dig n 8 : Nat)] 43)).alloc (.cells #[.bool t, .int .u32 (dig m 0 : Nat), .int .u32 (dig m 1 : Nat), .int .u32 (dig m 2 : Nat), .int .u32 (dig m 3 : Nat), .int .u32 (dig m 4 : Nat), .int .u32 (dig m 5 : Nat), .int .u32 (dig m 6 : Nat), .int .u32 (dig m 7 : Nat), .int .u32 (dig m 8 : Nat)] 43)).alloc (.cells #[.bool false, .int .u32 0, .int .u32 0, .int .u32 0, .int .u32 0, .int .u32 0, .int .u32 0, .int .u32 0, .int .u32 0, .int .u32 0] 43)).alloc (.cells #[.bool u, .int .u32 0, .int .u32 0, .int .u32 0, .int .u32 0, .int .u32 0, .int .u32 0, .int .u32 0, .int .u32 0, .int .u32 0] 43)) wr) ∧ Hid (w.heap.size + 1 + 1 + 1 + 1 ≤ wr.heap.size)) ∨ (ii = .int .i64 1 ∧ Hid (Out (w.heap.size + 1 + 1 + 1) u (n % 65536 ^ 1 * m) wr) ∧ Hid (Below (w.heap.size + 1 + 1 + 1) ((((w.alloc (.cells #[.bool s, .int .u32 (dig n 0 : Nat), .int .u32 (dig n 1 : Nat), .int .u32 (dig n 2 : Nat), .int .u32 (dig n 3 : Nat), .int .u32 (dig n 4 : Nat), .int .u32 (dig n 5 : Nat), .int .u32 (dig n 6 : Nat), .int .u32 (dig n 7 : Nat), .int .u32 (dig n 8 : Nat)] 43)).alloc (.cells #[.bool t, .int .u32 (dig m 0 : Nat), .int .u32 (dig m 1 : Nat), .int .u32 (dig m 2 : Nat), .int .u32 (dig m 3 : Nat), .int .u32 (dig m 4 : Nat), .int .u32 (dig m 5 : Nat), .int .u32 (dig m 6 : Nat), .int .u32 (dig m 7 : Nat), .int .u32 (dig m 8 : Nat)] 43)).alloc (.cells #[.bool false, .int .u32 0, .int .u32 0, .int .u32 0, .int .u32 0, .int .u32 0, .int .u32 0, .int .u32 0, .int .u32 0, .int .u32 0] 43)).alloc (.cells #[.bool u, .int .u32 0, .int .u32 0, .int .u32 0, .int .u32 0, .int .u32 0, .int .u32 0, .int .u32 0, .int .u32 0, .int .u32 0] 43)) wr) ∧ Hid (w.heap.size + 1 + 1 + 1 + 1 ≤ wr.heap.size)) ∨ (ii = .int .i64 2 ∧ Hid (Out (w.heap.size + 1 + 1 + 1) u (n % 65536 ^ 2 * m) wr) ∧ Hid (Below (w.heap.size + 1 + 1 + 1) ((((w.alloc (.cells #[.bool s, .int .u32 (dig n 0 : Nat), .int .u32 (dig n 1 : Nat), .int .u32 (dig n 2 : Nat), .int .u32 (dig n 3 : Nat), .int .u32 (dig n 4 : Nat), .int .u32 (dig n 5 : Nat), .int .u32 (dig n 6 : Nat), .int .u32 (dig n 7 : Nat), .int .u32 (dig n 8 : Nat)] 43)).alloc (.cells #[.bool t, .int .u32 (dig m 0 : Nat), .int .u32 (dig m 1 : Nat), .int .u32 (dig m 2 : Nat), .int .u32 (dig m 3 : Nat), .int .u32 (dig m 4 : Nat), .int .u32 (dig m 5 : Nat), .int .u32 (dig m 6 : Nat), .int .u32 (dig m 7 : Nat), .int .u32 (dig m 8 : Nat)] 43)).alloc (.cells #[.bool false, .int .u32 0, .int .u32 0, .int .u32 0, .int .u32 0, .int .u32 0, .int .u32 0, .int .u32 0, .int .u32 0, .int .u32 0] 43)).alloc (.cells #[.bool u, .int .u32 0, .int .u32 0, .int .u32 0, .int .u32 0, .int .u32 0, .int .u32 0, .int .u32 0, .int .u32 0, .int .u32 0] 43)) wr) ∧ Hid (w.heap.size + 1 + 1 + 1 + 1 ≤ wr.heap.size)) ∨ (ii = .int .i64 3 ∧ Hid (Out (w.heap.size + 1 + 1 + 1) u (n % 65536 ^ 3 * m) wr) ∧ Hid (Below (w.heap.size + 1 + 1 + 1) ((((w.alloc (.cells #[.bool s, .int .u32 (dig n 0 : Nat), .int .u32 (dig n 1 : Nat), .int .u32 (dig n 2 : Nat), .int .u32 (dig n 3 : Nat), .int .u32 (dig n 4 : Nat), .int .u32 (dig n 5 : Nat), .int .u32 (dig n 6 : Nat), .int .u32 (dig n 7 : Nat), .int .u32 (dig n 8 : Nat)] 43)).alloc (.cells #[.bool t, .int .u32 (dig m 0 : Nat), .int .u32 (dig m 1 : Nat), .int .u32 (dig m 2 : Nat), .int .u32 (dig m 3 : Nat), .int .u32 (dig m 4 : Nat), .int .u32 (dig m 5 : Nat), .int .u32 (dig m 6 : Nat), .int .u32 (dig m 7 : Nat), .int .u32 (dig m 8 : Nat)] 43)).alloc (.cells #[.bool false, .int .u32 0, .int .u32 0, .int .u32 0, .int .u32 0, .int .u32 0, .int .u32 0, .int .u32 0, .int .u32 0, .int .u32 0] 43)).alloc (.cells #[.bool u, .int .u32 0, .int .u32 0, .int .u32 0, .int .u32 0, .int .u32 0, .int .u32 0, .int .u32 0, .int .u32 0, .int .u32 0] 43)) wr) ∧ Hid (w.heap.size + 1 + 1 + 1 + 1 ≤ wr.heap.size)) ∨ (ii = .int .i64 4 ∧ Hid (Out (w.heap.size + 1 + 1 + 1) u (n % 65536 ^ 4 * m) wr) ∧ Hid (Below (w.heap.size + 1 + 1 + 1) ((((w.alloc (.cells #[.bool s, .int .u32 (dig n 0 : Nat), .int .u32 (dig n 1 : Nat), .int .u32 (dig n 2 : Nat), .int .u32 (dig n 3 : Nat), .int .u32 (dig n 4 : Nat), .int .u32 (dig n 5 : Nat), .int .u32 (dig n 6 : Nat), .int .u32 (dig n 7 : Nat), .int .u32 (dig n 8 : Nat)] 43)).alloc (.cells #[.bool t, .int .u32 (dig m 0 : Nat), .int .u32 (dig m 1 : Nat), .int .u32 (dig m 2 : Nat), .int .u32 (dig m 3 : Nat), .int .u32 (dig m 4 : Nat), .int .u32 (dig m 5 : Nat), .int .u32 (dig m 6 : Nat), .int .u32 (dig m 7 : Nat), .int .u32 (dig m 8 : Nat)] 43)).alloc (.cells #[.bool false, .int .u32 0, .int .u32 0, .int .u32 0, .int .u32 0, .int .u32 0, .int .u32 0, .int .u32 0, .int .u32 0, .int .u32 0] 43)).alloc (.cells #[.bool u, .int .u32 0, .int .u32 0, .int .u32 0, .int .u32 0, .int .u32 0, .int .u32 0, .int .u32 0, .int .u32 0, .int .u32 0] 43)) wr) ∧ Hid (w.heap.size + 1 + 1 + 1 + 1 ≤ wr.heap.size))) (fun ii _ => (5 - intOf ii).toNat)
  case atStart =>
    refine .inl ⟨rfl, Lib.hid ?_, Lib.hid (Below.refl _ _), Lib.hid (by simp)⟩
    have z : ∀ j, dig (n % 65536 ^ 0 * m) j = 0 := fun j => by rw [show n % 65536 ^ 0 * m = 0 by simp [Nat.mod_one]]; exact Long.dig_zero j
    refine ⟨by go_simp, by rw [z 0]; go_simp, by rw [z 1]; go_simp, by rw [z 2]; go_simp, by rw [z 3]; go_simp, by rw [z 4]; go_simp, by rw [z 5]; go_simp, by rw [z 6]; go_simp, by rw [z 7]; go_simp, by rw [z 8]; go_simp, by go_simp, by go_simp, by go_simp, by go_simp, by go_simp, by go_simp, by go_simp, by go_simp, by go_simp, by go_simp⟩
  case round =>
    rcases hrel with ⟨rfl, HO, HB, HS⟩ | ⟨rfl, HO, HB, HS⟩ | ⟨rfl, HO, HB, HS⟩ | ⟨rfl, HO, HB, HS⟩ | ⟨rfl, HO, HB, HS⟩
    · have hb := HB.out
      have hs := HS.out
      have a0 : wr.cell? ⟨w.heap.size, 1, none⟩ = some (.int .u32 (dig n 0 : Nat)) := by (rw [hb.cell (p := ⟨w.heap.size, 1, none⟩) (by show w.heap.size < _; omega)]; go_simp)
      have b0 : wr.cell? ⟨w.heap.size + 1, 1, none⟩ = some (.int .u32 (dig m 0 : Nat)) := by (rw [hb.cell (p := ⟨w.heap.size + 1, 1, none⟩) (by show w.heap.size + 1 < _; omega)]; go_simp)
      have b1 : wr.cell? ⟨w.heap.size + 1, 2, none⟩ = some (.int .u32 (dig m 1 : Nat)) := by (rw [hb.cell (p := ⟨w.heap.size + 1, 2, none⟩) (by show w.heap.size + 1 < _; omega)]; go_simp)
      have b2 : wr.cell? ⟨w.heap.size + 1, 3, none⟩ = some (.int .u32 (dig m 2 : Nat)) := by (rw [hb.cell (p := ⟨w.heap.size + 1, 3, none⟩) (by show w.heap.size + 1 < _; omega)]; go_simp)
      have b3 : wr.cell? ⟨w.heap.size + 1, 4, none⟩ = some (.int .u32 (dig m 3 : Nat)) := by (rw [hb.cell (p := ⟨w.heap.size + 1, 4, none⟩) (by show w.heap.size + 1 < _; omega)]; go_simp)
      have b4 : wr.cell? ⟨w.heap.size + 1, 5, none⟩ = some (.int .u32 (dig m 4 : Nat)) := by (rw [hb.cell (p := ⟨w.heap.size + 1, 5, none⟩) (by show w.heap.size + 1 < _; omega)]; go_simp)
      have A := Lib.hid (fun o => (ckeep a0 ((Below.refl _ wr).alloc (Nat.le_refl _) o)))
      have aA : ∀ o, (wr.alloc o).cell? ⟨w.heap.size, 1, none⟩ = some (.int .u32 (dig n 0 : Nat)) := fun o => ckeep a0 ((Below.refl _ wr).alloc (Nat.le_refl _) o)
      have bB0 : ∀ o, (wr.alloc o).cell? ⟨w.heap.size + 1, 1, none⟩ = some (.int .u32 (dig m 0 : Nat)) := fun o => ckeep b0 ((Below.refl _ wr).alloc (Nat.le_refl _) o)
      have bB1 : ∀ o, (wr.alloc o).cell? ⟨w.heap.size + 1, 2, none⟩ = some (.int .u32 (dig m 1 : Nat)) := fun o => ckeep b1 ((Below.refl _ wr).alloc (Nat.le_refl _) o)
      have bB2 : ∀ o, (wr.alloc o).cell? ⟨w.heap.size + 1, 3, none⟩ = some (.int .u32 (dig m 2 : Nat)) := fun o => ckeep b2 ((Below.refl _ wr).alloc (Nat.le_refl _) o)
      have bB3 : ∀ o, (wr.alloc o).cell? ⟨w.heap.size + 1, 4, none⟩ = some (.int .u32 (dig m 3 : Nat)) := fun o => ckeep b3 ((Below.refl _ wr).alloc (Nat.le_refl _) o)
      have bB4 : ∀ o, (wr.alloc o).cell? ⟨w.heap.size + 1, 5, none⟩ = some (.int .u32 (dig m 4 : Nat)) := fun o => ckeep b4 ((Below.refl _ wr).alloc (Nat.le_refl _) o)
      clear hb hs a0 A b0 b1 b2 b3 b4
      have da := Long.dig_lt n 0
      go_wp2
      go_loopw [8, 9] (fun c kk wi => ∃ q : Nat, (kk = .int .i64 0 ∧ c = .int .u32 (Long.mcar (dig n 0) m 0 : Nat) ∧ wi = (wr.alloc (.cells #[.int .u32 0, .int .u32 0, .int .u32 0, .int .u32 0, .int .u32 0, .int .u32 0, .int .u32 0, .int .u32 0, .int .u32 0] 41)).drewN q) ∨ (kk = .int .i64 1 ∧ c = .int .u32 (Long.mcar (dig n 0) m 1 : Nat) ∧ wi = (wr.alloc (.cells #[.int .u32 (dig (dig n 0 * m) 0 : Nat), .int .u32 0, .int .u32 0, .int .u32 0, .int .u32 0, .int .u32 0, .int .u32 0, .int .u32 0, .int .u32 0] 41)).drewN q) ∨ (kk = .int .i64 2 ∧ c = .int .u32 (Long.mcar (dig n 0) m 2 : Nat) ∧ wi = (wr.alloc (.cells #[.int .u32 (dig (dig n 0 * m) 0 : Nat), .int .u32 (dig (dig n 0 * m) 1 : Nat), .int .u32 0, .int .u32 0, .int .u32 0, .int .u32 0, .int .u32 0, .int .u32 0, .int .u32 0] 41)).drewN q) ∨ (kk = .int .i64 3 ∧ c = .int .u32 (Long.mcar (dig n 0) m 3 : Nat) ∧ wi = (wr.alloc (.cells #[.int .u32 (dig (dig n 0 * m) 0 : Nat), .int .u32 (dig (dig n 0 * m) 1 : Nat), .int .u32 (dig (dig n 0 * m) 2 : Nat), .int .u32 0, .int .u32 0, .int .u32 0, .int .u32 0, .int .u32 0, .int .u32 0] 41)).drewN q) ∨ (kk = .int .i64 4 ∧ c = .int .u32 (Long.mcar (dig n 0) m 4 : Nat) ∧ wi = (wr.alloc (.cells #[.int .u32 (dig (dig n 0 * m) 0 : Nat), .int .u32 (dig (dig n 0 * m) 1 : Nat), .int .u32 (dig (dig n 0 * m) 2 : Nat), .int .u32 (dig (dig n 0 * m) 3 : Nat), .int .u32 0, .int .u32 0, .int .u32 0, .int .u32 0, .int .u32 0] 41)).drewN q) ∨ (kk = .int .i64 5 ∧ c = .int .u32 (Long.mcar (dig n 0) m 5 : Nat) ∧ wi = (wr.alloc (.cells #[.int .u32 (dig (dig n 0 * m) 0 : Nat), .int .u32 (dig (dig n 0 * m) 1 : Nat), .int .u32 (dig (dig n 0 * m) 2 : Nat), .int .u32 (dig (dig n 0 * m) 3 : Nat), .int .u32 (dig (dig n 0 * m) 4 : Nat), .int .u32 0, .int .u32 0, .int .u32 0, .int .u32 0] 41)).drewN q)) (fun _ kk _ => (6 - intOf kk).toNat)
      case atStart => exact ⟨0, .inl ⟨rfl, by rw [Long.mcar_zero]; rfl, rfl⟩⟩
      case round =>
        obtain ⟨q, hrel⟩ := hrel
        rcases hrel with ⟨rfl, rfl, rfl⟩ | ⟨rfl, rfl, rfl⟩ | ⟨rfl, rfl, rfl⟩ | ⟨rfl, rfl, rfl⟩ | ⟨rfl, rfl, rfl⟩ | ⟨rfl, rfl, rfl⟩
        · have dm := Long.dig_lt m 0
          have c1 := LE.out 0 0
          have st : dig n 0 * dig m 0 + Long.mcar (dig n 0) m 0 = dig (dig n 0 * m) 0 + 65536 * Long.mcar (dig n 0) m 1 := ST.out 0 0
          have dp := Long.dig_lt (dig n 0 * m) 0
          have pm : dig n 0 * dig m 0 ≤ 65535 * 65535 := Nat.mul_le_mul (by omega) (by omega)
          obtain ⟨pr, hpr⟩ : ∃ pr : Nat, dig n 0 * dig m 0 = pr := ⟨_, rfl⟩
          have hpi : ((dig n 0 : Nat) : Int) * ((dig m 0 : Nat) : Int) = (pr : Int) := by rw [← Int.natCast_mul, hpr]
          rw [hpr] at st pm
          have E1 : (((pr : Nat) : Int) + ((Long.mcar (dig n 0) m 0 : Nat) : Int)) % 65536 = ((dig (dig n 0 * m) 0 : Nat) : Int) := by omega
          have E2 : (((pr : Nat) : Int) + ((Long.mcar (dig n 0) m 0 : Nat) : Int)) / 65536 = ((Long.mcar (dig n 0) m 1 : Nat) : Int) := by omega
          clear st dp hpr dm
          go_wp2
          go_region
          go_wp2
          all_goals go_roundw
          case rel => exact ⟨_, .inr (.inl ⟨rfl, by rw [E2], by first | rfl | rw [E1]⟩)⟩
          case measure => simp [intOf]
        · have dm := Long.dig_lt m 1
          have c1 := LE.out 0 1
          have st : dig n 0 * dig m 1 + Long.mcar (dig n 0) m 1 = dig (dig n 0 * m) 1 + 65536 * Long.mcar (dig n 0) m 2 := ST.out 0 1
          have dp := Long.dig_lt (dig n 0 * m) 1
          have pm : dig n 0 * dig m 1 ≤ 65535 * 65535 := Nat.mul_le_mul (by omega) (by omega)
          obtain ⟨pr, hpr⟩ : ∃ pr : Nat, dig n 0 * dig m 1 = pr := ⟨_, rfl⟩
          have hpi : ((dig n 0 : Nat) : Int) * ((dig m 1 : Nat) : Int) = (pr : Int) := by rw [← Int.natCast_mul, hpr]
          rw [hpr] at st pm
          have E1 : (((pr : Nat) : Int) + ((Long.mcar (dig n 0) m 1 : Nat) : Int)) % 65536 = ((dig (dig n 0 * m) 1 : Nat) : Int) := by omega
          have E2 : (((pr : Nat) : Int) + ((Long.mcar (dig n 0) m 1 : Nat) : Int)) / 65536 = ((Long.mcar (dig n 0) m 2 : Nat) : Int) := by omega
          clear st dp hpr dm
          go_wp2
          go_region
          go_wp2
          all_goals go_roundw
          case rel => exact ⟨_, .inr (.inr (.inl ⟨rfl, by rw [E2], by first | rfl | rw [E1]⟩))⟩
          case measure => simp [intOf]
        · have dm := Long.dig_lt m 2
          have c1 := LE.out 0 2
          have st : dig n 0 * dig m 2 + Long.mcar (dig n 0) m 2 = dig (dig n 0 * m) 2 + 65536 * Long.mcar (dig n 0) m 3 := ST.out 0 2
          have dp := Long.dig_lt (dig n 0 * m) 2
          have pm : dig n 0 * dig m 2 ≤ 65535 * 65535 := Nat.mul_le_mul (by omega) (by omega)
          obtain ⟨pr, hpr⟩ : ∃ pr : Nat, dig n 0 * dig m 2 = pr := ⟨_, rfl⟩
          have hpi : ((dig n 0 : Nat) : Int) * ((dig m 2 : Nat) : Int) = (pr : Int) := by rw [← Int.natCast_mul, hpr]
          rw [hpr] at st pm
          have E1 : (((pr : Nat) : Int) + ((Long.mcar (dig n 0) m 2 : Nat) : Int)) % 65536 = ((dig (dig n 0 * m) 2 : Nat) : Int) := by omega
          have E2 : (((pr : Nat) : Int) + ((Long.mcar (dig n 0) m 2 : Nat) : Int)) / 65536 = ((Long.mcar (dig n 0) m 3 : Nat) : Int) := by omega
          clear st dp hpr dm
          go_wp2
          go_region
          go_wp2
          all_goals go_roundw
          case rel => exact ⟨_, .inr (.inr (.inr (.inl ⟨rfl, by rw [E2], by first | rfl | rw [E1]⟩)))⟩
          case measure => simp [intOf]
        · have dm := Long.dig_lt m 3
          have c1 := LE.out 0 3
          have st : dig n 0 * dig m 3 + Long.mcar (dig n 0) m 3 = dig (dig n 0 * m) 3 + 65536 * Long.mcar (dig n 0) m 4 := ST.out 0 3
          have dp := Long.dig_lt (dig n 0 * m) 3
          have pm : dig n 0 * dig m 3 ≤ 65535 * 65535 := Nat.mul_le_mul (by omega) (by omega)
          obtain ⟨pr, hpr⟩ : ∃ pr : Nat, dig n 0 * dig m 3 = pr := ⟨_, rfl⟩
          have hpi : ((dig n 0 : Nat) : Int) * ((dig m 3 : Nat) : Int) = (pr : Int) := by rw [← Int.natCast_mul, hpr]
          rw [hpr] at st pm
          have E1 : (((pr : Nat) : Int) + ((Long.mcar (dig n 0) m 3 : Nat) : Int)) % 65536 = ((dig (dig n 0 * m) 3 : Nat) : Int) := by omega
          have E2 : (((pr : Nat) : Int) + ((Long.mcar (dig n 0) m 3 : Nat) : Int)) / 65536 = ((Long.mcar (dig n 0) m 4 : Nat) : Int) := by omega
          clear st dp hpr dm
          go_wp2
          go_region
          go_wp2
          all_goals go_roundw
          case rel => exact ⟨_, .inr (.inr (.inr (.inr (.inl ⟨rfl, by rw [E2], by first | rfl | rw [E1]⟩))))⟩
          case measure => simp [intOf]
        · have dm := Long.dig_lt m 4
          have c1 := LE.out 0 4
          have st : dig n 0 * dig m 4 + Long.mcar (dig n 0) m 4 = dig (dig n 0 * m) 4 + 65536 * Long.mcar (dig n 0) m 5 := ST.out 0 4
          have dp := Long.dig_lt (dig n 0 * m) 4
          have pm : dig n 0 * dig m 4 ≤ 65535 * 65535 := Nat.mul_le_mul (by omega) (by omega)
          obtain ⟨pr, hpr⟩ : ∃ pr : Nat, dig n 0 * dig m 4 = pr := ⟨_, rfl⟩
          have hpi : ((dig n 0 : Nat) : Int) * ((dig m 4 : Nat) : Int) = (pr : Int) := by rw [← Int.natCast_mul, hpr]
          rw [hpr] at st pm
          have E1 : (((pr : Nat) : Int) + ((Long.mcar (dig n 0) m 4 : Nat) : Int)) % 65536 = ((dig (dig n 0 * m) 4 : Nat) : Int) := by omega
          have E2 : (((pr : Nat) : Int) + ((Long.mcar (dig n 0) m 4 : Nat) : Int)) / 65536 = ((Long.mcar (dig n 0) m 5 : Nat) : Int) := by omega
          clear st dp hpr dm
          go_wp2
          go_region
          go_wp2
          all_goals go_roundw
          case rel => exact ⟨_, .inr (.inr (.inr (.inr (.inr (⟨rfl, by rw [E2], by first | rfl | rw [E1]⟩)))))⟩
          case measure => simp [intOf]
        · have HOo := HO.out
          have hs := HS.out
          have o0 : ∀ o, (wr.alloc o).cell? ⟨w.heap.size + 1 + 1 + 1, 0, none⟩ = some (.bool u) := fun o => ckeep HOo.c0 ((Below.refl _ wr).alloc (Nat.le_refl _) o)
          have p0 : ∀ o, (wr.alloc o).frozen? ⟨w.heap.size + 1 + 1 + 1, 0, none⟩ = false := fun o => by (rw [((Below.refl wr.heap.size wr).alloc (Nat.le_refl _) o).frozen (p := ⟨w.heap.size + 1 + 1 + 1, 0, none⟩) (by show w.heap.size + 1 + 1 + 1 < _; omega)]; exact HOo.f0)
          have o1 : ∀ o, (wr.alloc o).cell? ⟨w.heap.size + 1 + 1 + 1, 1, none⟩ = some (.int .u32 (dig (n % 65536 ^ 0 * m) 0 : Nat)) := fun o => ckeep HOo.c1 ((Below.refl _ wr).alloc (Nat.le_refl _) o)
          have p1 : ∀ o, (wr.alloc o).frozen? ⟨w.heap.size + 1 + 1 + 1, 1, none⟩ = false := fun o => by (rw [((Below.refl wr.heap.size wr).alloc (Nat.le_refl _) o).frozen (p := ⟨w.heap.size + 1 + 1 + 1, 1, none⟩) (by show w.heap.size + 1 + 1 + 1 < _; omega)]; exact HOo.f1)
          have o2 : ∀ o, (wr.alloc o).cell? ⟨w.heap.size + 1 + 1 + 1, 2, none⟩ = some (.int .u32 (dig (n % 65536 ^ 0 * m) 1 : Nat)) := fun o => ckeep HOo.c2 ((Below.refl _ wr).alloc (Nat.le_refl _) o)
          have p2 : ∀ o, (wr.alloc o).frozen? ⟨w.heap.size + 1 + 1 + 1, 2, none⟩ = false := fun o => by (rw [((Below.refl wr.heap.size wr).alloc (Nat.le_refl _) o).frozen (p := ⟨w.heap.size + 1 + 1 + 1, 2, none⟩) (by show w.heap.size + 1 + 1 + 1 < _; omega)]; exact HOo.f2)
          have o3 : ∀ o, (wr.alloc o).cell? ⟨w.heap.size + 1 + 1 + 1, 3, none⟩ = some (.int .u32 (dig (n % 65536 ^ 0 * m) 2 : Nat)) := fun o => ckeep HOo.c3 ((Below.refl _ wr).alloc (Nat.le_refl _) o)
          have p3 : ∀ o, (wr.alloc o).frozen? ⟨w.heap.size + 1 + 1 + 1, 3, none⟩ = false := fun o => by (rw [((Below.refl wr.heap.size wr).alloc (Nat.le_refl _) o).frozen (p := ⟨w.heap.size + 1 + 1 + 1, 3, none⟩) (by show w.heap.size + 1 + 1 + 1 < _; omega)]; exact HOo.f3)
          have o4 : ∀ o, (wr.alloc o).cell? ⟨w.heap.size + 1 + 1 + 1, 4, none⟩ = some (.int .u32 (dig (n % 65536 ^ 0 * m) 3 : Nat)) := fun o => ckeep HOo.c4 ((Below.refl _ wr).alloc (Nat.le_refl _) o)
          have p4 : ∀ o, (wr.alloc o).frozen? ⟨w.heap.size + 1 + 1 + 1, 4, none⟩ = false := fun o => by (rw [((Below.refl wr.heap.size wr).alloc (Nat.le_refl _) o).frozen (p := ⟨w.heap.size + 1 + 1 + 1, 4, none⟩) (by show w.heap.size + 1 + 1 + 1 < _; omega)]; exact HOo.f4)
          have o5 : ∀ o, (wr.alloc o).cell? ⟨w.heap.size + 1 + 1 + 1, 5, none⟩ = some (.int .u32 (dig (n % 65536 ^ 0 * m) 4 : Nat)) := fun o => ckeep HOo.c5 ((Below.refl _ wr).alloc (Nat.le_refl _) o)
          have p5 : ∀ o, (wr.alloc o).frozen? ⟨w.heap.size + 1 + 1 + 1, 5, none⟩ = false := fun o => by (rw [((Below.refl wr.heap.size wr).alloc (Nat.le_refl _) o).frozen (p := ⟨w.heap.size + 1 + 1 + 1, 5, none⟩) (by show w.heap.size + 1 + 1 + 1 < _; omega)]; exact HOo.f5)
          have o6 : ∀ o, (wr.alloc o).cell? ⟨w.heap.size + 1 + 1 + 1, 6, none⟩ = some (.int .u32 (dig (n % 65536 ^ 0 * m) 5 : Nat)) := fun o => ckeep HOo.c6 ((Below.refl _ wr).alloc (Nat.le_refl _) o)
          have p6 : ∀ o, (wr.alloc o).frozen? ⟨w.heap.size + 1 + 1 + 1, 6, none⟩ = false := fun o => by (rw [((Below.refl wr.heap.size wr).alloc (Nat.le_refl _) o).frozen (p := ⟨w.heap.size + 1 + 1 + 1, 6, none⟩) (by show w.heap.size + 1 + 1 + 1 < _; omega)]; exact HOo.f6)
          have o7 : ∀ o, (wr.alloc o).cell? ⟨w.heap.size + 1 + 1 + 1, 7, none⟩ = some (.int .u32 (dig (n % 65536 ^ 0 * m) 6 : Nat)) := fun o => ckeep HOo.c7 ((Below.refl _ wr).alloc (Nat.le_refl _) o)
          have p7 : ∀ o, (wr.alloc o).frozen? ⟨w.heap.size + 1 + 1 + 1, 7, none⟩ = false := fun o => by (rw [((Below.refl wr.heap.size wr).alloc (Nat.le_refl _) o).frozen (p := ⟨w.heap.size + 1 + 1 + 1, 7, none⟩) (by show w.heap.size + 1 + 1 + 1 < _; omega)]; exact HOo.f7)
          have o8 : ∀ o, (wr.alloc o).cell? ⟨w.heap.size + 1 + 1 + 1, 8, none⟩ = some (.int .u32 (dig (n % 65536 ^ 0 * m) 7 : Nat)) := fun o => ckeep HOo.c8 ((Below.refl _ wr).alloc (Nat.le_refl _) o)
          have p8 : ∀ o, (wr.alloc o).frozen? ⟨w.heap.size + 1 + 1 + 1, 8, none⟩ = false := fun o => by (rw [((Below.refl wr.heap.size wr).alloc (Nat.le_refl _) o).frozen (p := ⟨w.heap.size + 1 + 1 + 1, 8, none⟩) (by show w.heap.size + 1 + 1 + 1 < _; omega)]; exact HOo.f8)
          have o9 : ∀ o, (wr.alloc o).cell? ⟨w.heap.size + 1 + 1 + 1, 9, none⟩ = some (.int .u32 (dig (n % 65536 ^ 0 * m) 8 : Nat)) := fun o => ckeep HOo.c9 ((Below.refl _ wr).alloc (Nat.le_refl _) o)
          have p9 : ∀ o, (wr.alloc o).frozen? ⟨w.heap.size + 1 + 1 + 1, 9, none⟩ = false := fun o => by (rw [((Below.refl wr.heap.size wr).alloc (Nat.le_refl _) o).frozen (p := ⟨w.heap.size + 1 + 1 + 1, 9, none⟩) (by show w.heap.size + 1 + 1 + 1 < _; omega)]; exact HOo.f9)
          clear HOo aA bB0 bB1 bB2 bB3 bB4
          go_wp2_with fail
          go_at_call 42
          with_reducible refine (M0.out _).mono ?_
          rintro e w5 ⟨rfl, hb5⟩
          have lt5 : w.heap.size + 1 + 1 + 1 < ((wr.alloc (.cells #[.int .u32 (dig (dig n 0 * m) 0 : Nat), .int .u32 (dig (dig n 0 * m) 1 : Nat), .int .u32 (dig (dig n 0 * m) 2 : Nat), .int .u32 (dig (dig n 0 * m) 3 : Nat), .int .u32 (dig (dig n 0 * m) 4 : Nat), .int .u32 0, .int .u32 0, .int .u32 0, .int .u32 0] 41)).drewN q).heap.size := by (show w.heap.size + 1 + 1 + 1 < (wr.alloc _).heap.size; simp; omega)
          have g0 : w5.cell? ⟨w.heap.size + 1 + 1 + 1, 0, none⟩ = some (.bool u) := by (rw [hb5.cell (p := ⟨w.heap.size + 1 + 1 + 1, 0, none⟩) lt5]; exact o0 _)
          have f0 : w5.frozen? ⟨w.heap.size + 1 + 1 + 1, 0, none⟩ = false := by (rw [hb5.frozen (p := ⟨w.heap.size + 1 + 1 + 1, 0, none⟩) lt5]; exact p0 _)
          have g1 : w5.cell? ⟨w.heap.size + 1 + 1 + 1, 1, none⟩ = some (.int .u32 (dig (n % 65536 ^ 0 * m) 0 : Nat)) := by (rw [hb5.cell (p := ⟨w.heap.size + 1 + 1 + 1, 1, none⟩) lt5]; exact o1 _)
          have f1 : w5.frozen? ⟨w.heap.size + 1 + 1 + 1, 1, none⟩ = false := by (rw [hb5.frozen (p := ⟨w.heap.size + 1 + 1 + 1, 1, none⟩) lt5]; exact p1 _)
          have g2 : w5.cell? ⟨w.heap.size + 1 + 1 + 1, 2, none⟩ = some (.int .u32 (dig (n % 65536 ^ 0 * m) 1 : Nat)) := by (rw [hb5.cell (p := ⟨w.heap.size + 1 + 1 + 1, 2, none⟩) lt5]; exact o2 _)
          have f2 : w5.frozen? ⟨w.heap.size + 1 + 1 + 1, 2, none⟩ = false := by (rw [hb5.frozen (p := ⟨w.heap.size + 1 + 1 + 1, 2, none⟩) lt5]; exact p2 _)
          have g3 : w5.cell? ⟨w.heap.size + 1 + 1 + 1, 3, none⟩ = some (.int .u32 (dig (n % 65536 ^ 0 * m) 2 : Nat)) := by (rw [hb5.cell (p := ⟨w.heap.size + 1 + 1 + 1, 3, none⟩) lt5]; exact o3 _)
          have f3 : w5.frozen? ⟨w.heap.size + 1 + 1 + 1, 3, none⟩ = false := by (rw [hb5.frozen (p := ⟨w.heap.size + 1 + 1 + 1, 3, none⟩) lt5]; exact p3 _)
          have g4 : w5.cell? ⟨w.heap.size + 1 + 1 + 1, 4, none⟩ = some (.int .u32 (dig (n % 65536 ^ 0 * m) 3 : Nat)) := by (rw [hb5.cell (p := ⟨w.heap.size + 1 + 1 + 1, 4, none⟩) lt5]; exact o4 _)
          have f4 : w5.frozen? ⟨w.heap.size + 1 + 1 + 1, 4, none⟩ = false := by (rw [hb5.frozen (p := ⟨w.heap.size + 1 + 1 + 1, 4, none⟩) lt5]; exact p4 _)
          have g5 : w5.cell? ⟨w.heap.size + 1 + 1 + 1, 5, none⟩ = some (.int .u32 (dig (n % 65536 ^ 0 * m) 4 : Nat)) := by (rw [hb5.cell (p := ⟨w.heap.size + 1 + 1 + 1, 5, none⟩) lt5]; exact o5 _)
          have f5 : w5.frozen? ⟨w.heap.size + 1 + 1 + 1, 5, none⟩ = false := by (rw [hb5.frozen (p := ⟨w.heap.size + 1 + 1 + 1, 5, none⟩) lt5]; exact p5 _)
          have g6 : w5.cell? ⟨w.heap.size + 1 + 1 + 1, 6, none⟩ = some (.int .u32 (dig (n % 65536 ^ 0 * m) 5 : Nat)) := by (rw [hb5.cell (p := ⟨w.heap.size + 1 + 1 + 1, 6, none⟩) lt5]; exact o6 _)
          have f6 : w5.frozen? ⟨w.heap.size + 1 + 1 + 1, 6, none⟩ = false := by (rw [hb5.frozen (p := ⟨w.heap.size + 1 + 1 + 1, 6, none⟩) lt5]; exact p6 _)
          have g7 : w5.cell? ⟨w.heap.size + 1 + 1 + 1, 7, none⟩ = some (.int .u32 (dig (n % 65536 ^ 0 * m) 6 : Nat)) := by (rw [hb5.cell (p := ⟨w.heap.size + 1 + 1 + 1, 7, none⟩) lt5]; exact o7 _)
          have f7 : w5.frozen? ⟨w.heap.size + 1 + 1 + 1, 7, none⟩ = false := by (rw [hb5.frozen (p := ⟨w.heap.size + 1 + 1 + 1, 7, none⟩) lt5]; exact p7 _)
          have g8 : w5.cell? ⟨w.heap.size + 1 + 1 + 1, 8, none⟩ = some (.int .u32 (dig (n % 65536 ^ 0 * m) 7 : Nat)) := by (rw [hb5.cell (p := ⟨w.heap.size + 1 + 1 + 1, 8, none⟩) lt5]; exact o8 _)
          have f8 : w5.frozen? ⟨w.heap.size + 1 + 1 + 1, 8, none⟩ = false := by (rw [hb5.frozen (p := ⟨w.heap.size + 1 + 1 + 1, 8, none⟩) lt5]; exact p8 _)
          have g9 : w5.cell? ⟨w.heap.size + 1 + 1 + 1, 9, none⟩ = some (.int .u32 (dig (n % 65536 ^ 0 * m) 8 : Nat)) := by (rw [hb5.cell (p := ⟨w.heap.size + 1 + 1 + 1, 9, none⟩) lt5]; exact o9 _)
          have f9 : w5.frozen? ⟨w.heap.size + 1 + 1 + 1, 9, none⟩ = false := by (rw [hb5.frozen (p := ⟨w.heap.size + 1 + 1 + 1, 9, none⟩) lt5]; exact p9 _)
          have z3 : Below (w.heap.size + 1 + 1 + 1) ((((w.alloc (.cells #[.bool s, .int .u32 (dig n 0 : Nat), .int .u32 (dig n 1 : Nat), .int .u32 (dig n 2 : Nat), .int .u32 (dig n 3 : Nat), .int .u32 (dig n 4 : Nat), .int .u32 (dig n 5 : Nat), .int .u32 (dig n 6 : Nat), .int .u32 (dig n 7 : Nat), .int .u32 (dig n 8 : Nat)] 43)).alloc (.cells #[.bool t, .int .u32 (dig m 0 : Nat), .int .u32 (dig m 1 : Nat), .int .u32 (dig m 2 : Nat), .int .u32 (dig m 3 : Nat), .int .u32 (dig m 4 : Nat), .int .u32 (dig m 5 : Nat), .int .u32 (dig m 6 : Nat), .int .u32 (dig m 7 : Nat), .int .u32 (dig m 8 : Nat)] 43)).alloc (.cells #[.bool false, .int .u32 0, .int .u32 0, .int .u32 0, .int .u32 0, .int .u32 0, .int .u32 0, .int .u32 0, .int .u32 0, .int .u32 0] 43)).alloc (.cells #[.bool u, .int .u32 0, .int .u32 0, .int .u32 0, .int .u32 0, .int .u32 0, .int .u32 0, .int .u32 0, .int .u32 0, .int .u32 0] 43)) w5 := Below.trans (below_drewN' (HB.out.alloc (by omega) _) q) (hb5.mono (Nat.le_of_lt lt5))
          have H5 := Lib.hid z3
          have S5 : w.heap.size + 1 + 1 + 1 + 1 ≤ w5.heap.size := Nat.le_trans lt5 hb5.size
          have S5 := Lib.hid S5
          clear z3 hb5 lt5 hs o0 p0 o1 p1 o2 p2 o3 p3 o4 p4 o5 p5 o6 p6 o7 p7 o8 p8 o9 p9
          go_wp2
          obtain ⟨wf, hwf, r0, r1, r2, r3, r4, r5, r6, r7, r8, r9, q0, q1, q2, q3, q4, q5, q6, q7, q8, q9, bf⟩ : ∃ wf, (((((((((w5.setCell ⟨w.heap.size + 1 + 1 + 1, 1, none⟩ (.int .u32 (dig (n % 65536 ^ 1 * m) 0 : Nat))).setCell ⟨w.heap.size + 1 + 1 + 1, 2, none⟩ (.int .u32 (dig (n % 65536 ^ 1 * m) 1 : Nat))).setCell ⟨w.heap.size + 1 + 1 + 1, 3, none⟩ (.int .u32 (dig (n % 65536 ^ 1 * m) 2 : Nat))).setCell ⟨w.heap.size + 1 + 1 + 1, 4, none⟩ (.int .u32 (dig (n % 65536 ^ 1 * m) 3 : Nat))).setCell ⟨w.heap.size + 1 + 1 + 1, 5, none⟩ (.int .u32 (dig (n % 65536 ^ 1 * m) 4 : Nat))).setCell ⟨w.heap.size + 1 + 1 + 1, 6, none⟩ (.int .u32 (dig (n % 65536 ^ 1 * m) 5 : Nat))).setCell ⟨w.heap.size + 1 + 1 + 1, 7, none⟩ (.int .u32 (dig (n % 65536 ^ 1 * m) 6 : Nat))).setCell ⟨w.heap.size + 1 + 1 + 1, 8, none⟩ (.int .u32 (dig (n % 65536 ^ 1 * m) 7 : Nat))).setCell ⟨w.heap.size + 1 + 1 + 1, 9, none⟩ (.int .u32 (dig (n % 65536 ^ 1 * m) 8 : Nat))) = wf ∧ wf.cell? ⟨w.heap.size + 1 + 1 + 1, 0, none⟩ = some (.bool u) ∧ wf.cell? ⟨w.heap.size + 1 + 1 + 1, 1, none⟩ = some (.int .u32 (dig (n % 65536 ^ 1 * m) 0 : Nat)) ∧ wf.cell? ⟨w.heap.size + 1 + 1 + 1, 2, none⟩ = some (.int .u32 (dig (n % 65536 ^ 1 * m) 1 : Nat)) ∧ wf.cell? ⟨w.heap.size + 1 + 1 + 1, 3, none⟩ = some (.int .u32 (dig (n % 65536 ^ 1 * m) 2 : Nat)) ∧ wf.cell? ⟨w.heap.size + 1 + 1 + 1, 4, none⟩ = some (.int .u32 (dig (n % 65536 ^ 1 * m) 3 : Nat)) ∧ wf.cell? ⟨w.heap.size + 1 + 1 + 1, 5, none⟩ = some (.int .u32 (dig (n % 65536 ^ 1 * m) 4 : Nat)) ∧ wf.cell? ⟨w.heap.size + 1 + 1 + 1, 6, none⟩ = some (.int .u32 (dig (n % 65536 ^ 1 * m) 5 : Nat)) ∧ wf.cell? ⟨w.heap.size + 1 + 1 + 1, 7, none⟩ = some (.int .u32 (dig (n % 65536 ^ 1 * m) 6 : Nat)) ∧ wf.cell? ⟨w.heap.size + 1 + 1 + 1, 8, none⟩ = some (.int .u32 (dig (n % 65536 ^ 1 * m) 7 : Nat)) ∧ wf.cell? ⟨w.heap.size + 1 + 1 + 1, 9, none⟩ = some (.int .u32 (dig (n % 65536 ^ 1 * m) 8 : Nat)) ∧ wf.frozen? ⟨w.heap.size + 1 + 1 + 1, 0, none⟩ = false ∧ wf.frozen? ⟨w.heap.size + 1 + 1 + 1, 1, none⟩ = false ∧ wf.frozen? ⟨w.heap.size + 1 + 1 + 1, 2, none⟩ = false ∧ wf.frozen? ⟨w.heap.size + 1 + 1 + 1, 3, none⟩ = false ∧ wf.frozen? ⟨w.heap.size + 1 + 1 + 1, 4, none⟩ = false ∧ wf.frozen? ⟨w.heap.size + 1 + 1 + 1, 5, none⟩ = false ∧ wf.frozen? ⟨w.heap.size + 1 + 1 + 1, 6, none⟩ = false ∧ wf.frozen? ⟨w.heap.size + 1 + 1 + 1, 7, none⟩ = false ∧ wf.frozen? ⟨w.heap.size + 1 + 1 + 1, 8, none⟩ = false ∧ wf.frozen? ⟨w.heap.size + 1 + 1 + 1, 9, none⟩ = false ∧ Hid (Below (w.heap.size + 1 + 1 + 1) w5 wf) := by
            refine ⟨_, rfl, ?_, ?_, ?_, ?_, ?_, ?_, ?_, ?_, ?_, ?_, ?_, ?_, ?_, ?_, ?_, ?_, ?_, ?_, ?_, ?_, Lib.hid (by (iterate 9 (refine Below.setCell (p := ⟨w.heap.size + 1 + 1 + 1, _, none⟩) ?_ (Nat.le_refl (w.heap.size + 1 + 1 + 1)) _)); exact Below.refl _ _)⟩ <;> go_simp
          rw [hwf]
          clear hwf g0 f0 g1 f1 g2 f2 g3 f3 g4 f4 g5 f5 g6 f6 g7 f7 g8 f8 g9 f9
          have OO := Lib.hid (show Out (w.heap.size + 1 + 1 + 1) u (n % 65536 ^ 1 * m) wf from ⟨r0, r1, r2, r3, r4, r5, r6, r7, r8, r9, q0, q1, q2, q3, q4, q5, q6, q7, q8, q9⟩)
          clear r0 q0 r1 q1 r2 q2 r3 q3 r4 q4 r5 q5 r6 q6 r7 q7 r8 q8 r9 q9
          all_goals go_roundw
          case rel => exact .inr (.inl ⟨rfl, OO, Lib.hid (Below.trans H5.out bf.out), Lib.hid (Nat.le_trans S5.out bf.out.size)⟩)
          case measure => simp [intOf]
    · have hb := HB.out
      have hs := HS.out
      have a1 : wr.cell? ⟨w.heap.size, 2, none⟩ = some (.int .u32 (dig n 1 : Nat)) := by (rw [hb.cell (p := ⟨w.heap.size, 2, none⟩) (by show w.heap.size < _; omega)]; go_simp)
      have b0 : wr.cell? ⟨w.heap.size + 1, 1, none⟩ = some (.int .u32 (dig m 0 : Nat)) := by (rw [hb.cell (p := ⟨w.heap.size + 1, 1, none⟩) (by show w.heap.size + 1 < _; omega)]; go_simp)
      have b1 : wr.cell? ⟨w.heap.size + 1, 2, none⟩ = some (.int .u32 (dig m 1 : Nat)) := by (rw [hb.cell (p := ⟨w.heap.size + 1, 2, none⟩) (by show w.heap.size + 1 < _; omega)]; go_simp)
      have b2 : wr.cell? ⟨w.heap.size + 1, 3, none⟩ = some (.int .u32 (dig m 2 : Nat)) := by (rw [hb.cell (p := ⟨w.heap.size + 1, 3, none⟩) (by show w.heap.size + 1 < _; omega)]; go_simp)
      have b3 : wr.cell? ⟨w.heap.size + 1, 4, none⟩ = some (.int .u32 (dig m 3 : Nat)) := by (rw [hb.cell (p := ⟨w.heap.size + 1, 4, none⟩) (by show w.heap.size + 1 < _; omega)]; go_simp)
      have b4 : wr.cell? ⟨w.heap.size + 1, 5, none⟩ = some (.int .u32 (dig m 4 : Nat)) := by (rw [hb.cell (p := ⟨w.heap.size + 1, 5, none⟩) (by show w.heap.size + 1 < _; omega)]; go_simp)
      have A := Lib.hid (fun o => (ckeep a1 ((Below.refl _ wr).alloc (Nat.le_refl _) o)))
      have aA : ∀ o, (wr.alloc o).cell? ⟨w.heap.size, 2, none⟩ = some (.int .u32 (dig n 1 : Nat)) := fun o => ckeep a1 ((Below.refl _ wr).alloc (Nat.le_refl _) o)
      have bB0 : ∀ o, (wr.alloc o).cell? ⟨w.heap.size + 1, 1, none⟩ = some (.int .u32 (dig m 0 : Nat)) := fun o => ckeep b0 ((Below.refl _ wr).alloc (Nat.le_refl _) o)
      have bB1 : ∀ o, (wr.alloc o).cell? ⟨w.heap.size + 1, 2, none⟩ = some (.int .u32 (dig m 1 : Nat)) := fun o => ckeep b1 ((Below.refl _ wr).alloc (Nat.le_refl _) o)
      have bB2 : ∀ o, (wr.alloc o).cell? ⟨w.heap.size + 1, 3, none⟩ = some (.int .u32 (dig m 2 : Nat)) := fun o => ckeep b2 ((Below.refl _ wr).alloc (Nat.le_refl _) o)
      have bB3 : ∀ o, (wr.alloc o).cell? ⟨w.heap.size + 1, 4, none⟩ = some (.int .u32 (dig m 3 : Nat)) := fun o => ckeep b3 ((Below.refl _ wr).alloc (Nat.le_refl _) o)
      have bB4 : ∀ o, (wr.alloc o).cell? ⟨w.heap.size + 1, 5, none⟩ = some (.int .u32 (dig m 4 : Nat)) := fun o => ckeep b4 ((Below.refl _ wr).alloc (Nat.le_refl _) o)
      clear hb hs a1 A b0 b1 b2 b3 b4
      have da := Long.dig_lt n 1
      go_wp2
      go_loopw [8, 9] (fun c kk wi => ∃ q : Nat, (kk = .int .i64 0 ∧ c = .int .u32 (Long.mcar (dig n 1) m 0 : Nat) ∧ wi = (wr.alloc (.cells #[.int .u32 0, .int .u32 0, .int .u32 0, .int .u32 0, .int .u32 0, .int .u32 0, .int .u32 0, .int .u32 0, .int .u32 0] 41)).drewN q) ∨ (kk = .int .i64 1 ∧ c = .int .u32 (Long.mcar (dig n 1) m 1 : Nat) ∧ wi = (wr.alloc (.cells #[.int .u32 0, .int .u32 (dig (dig n 1 * m) 0 : Nat), .int .u32 0, .int .u32 0, .int .u32 0, .int .u32 0, .int .u32 0, .int .u32 0, .int .u32 0] 41)).drewN q) ∨ (kk = .int .i64 2 ∧ c = .int .u32 (Long.mcar (dig n 1) m 2 : Nat) ∧ wi = (wr.alloc (.cells #[.int .u32 0, .int .u32 (dig (dig n 1 * m) 0 : Nat), .int .u32 (dig (dig n 1 * m) 1 : Nat), .int .u32 0, .int .u32 0, .int .u32 0, .int .u32 0, .int .u32 0, .int .u32 0] 41)).drewN q) ∨ (kk = .int .i64 3 ∧ c = .int .u32 (Long.mcar (dig n 1) m 3 : Nat) ∧ wi = (wr.alloc (.cells #[.int .u32 0, .int .u32 (dig (dig n 1 * m) 0 : Nat), .int .u32 (dig (dig n 1 * m) 1 : Nat), .int .u32 (dig (dig n 1 * m) 2 : Nat), .int .u32 0, .int .u32 0, .int .u32 0, .int .u32 0, .int .u32 0] 41)).drewN q) ∨ (kk = .int .i64 4 ∧ c = .int .u32 (Long.mcar (dig n 1) m 4 : Nat) ∧ wi = (wr.alloc (.cells #[.int .u32 0, .int .u32 (dig (dig n 1 * m) 0 : Nat), .int .u32 (dig (dig n 1 * m) 1 : Nat), .int .u32 (dig (dig n 1 * m) 2 : Nat), .int .u32 (dig (dig n 1 * m) 3 : Nat), .int .u32 0, .int .u32 0, .int .u32 0, .int .u32 0] 41)).drewN q) ∨ (kk = .int .i64 5 ∧ c = .int .u32 (Long.mcar (dig n 1) m 5 : Nat) ∧ wi = (wr.alloc (.cells #[.int .u32 0, .int .u32 (dig (dig n 1 * m) 0 : Nat), .int .u32 (dig (dig n 1 * m) 1 : Nat), .int .u32 (dig (dig n 1 * m) 2 : Nat), .int .u32 (dig (dig n 1 * m) 3 : Nat), .int .u32 (dig (dig n 1 * m) 4 : Nat), .int .u32 0, .int .u32 0, .int .u32 0] 41)).drewN q)) (fun _ kk _ => (6 - intOf kk).toNat)
      case atStart => exact ⟨0, .inl ⟨rfl, by rw [Long.mcar_zero]; rfl, rfl⟩⟩
      case round =>
        obtain ⟨q, hrel⟩ := hrel
        rcases hrel with ⟨rfl, rfl, rfl⟩ | ⟨rfl, rfl, rfl⟩ | ⟨rfl, rfl, rfl⟩ | ⟨rfl, rfl, rfl⟩ | ⟨rfl, rfl, rfl⟩ | ⟨rfl, rfl, rfl⟩
        · have dm := Long.dig_lt m 0
          have c1 := LE.out 1 0
          have st : dig n 1 * dig m 0 + Long.mcar (dig n 1) m 0 = dig (dig n 1 * m) 0 + 65536 * Long.mcar (dig n 1) m 1 := ST.out 1 0
          have dp := Long.dig_lt (dig n 1 * m) 0
          have pm : dig n 1 * dig m 0 ≤ 65535 * 65535 := Nat.mul_le_mul (by omega) (by omega)
          obtain ⟨pr, hpr⟩ : ∃ pr : Nat, dig n 1 * dig m 0 = pr := ⟨_, rfl⟩
          have hpi : ((dig n 1 : Nat) : Int) * ((dig m 0 : Nat) : Int) = (pr : Int) := by rw [← Int.natCast_mul, hpr]
          rw [hpr] at st pm
          have E1 : (((pr : Nat) : Int) + ((Long.mcar (dig n 1) m 0 : Nat) : Int)) % 65536 = ((dig (dig n 1 * m) 0 : Nat) : Int) := by omega
          have E2 : (((pr : Nat) : Int) + ((Long.mcar (dig n 1) m 0 : Nat) : Int)) / 65536 = ((Long.mcar (dig n 1) m 1 : Nat) : Int) := by omega
          clear st dp hpr dm
          go_wp2
          go_region
          go_wp2
          all_goals go_roundw
          case rel => exact ⟨_, .inr (.inl ⟨rfl, by rw [E2], by first | rfl | rw [E1]⟩)⟩
          case measure => simp [intOf]
        · have dm := Long.dig_lt m 1
          have c1 := LE.out 1 1
          have st : dig n 1 * dig m 1 + Long.mcar (dig n 1) m 1 = dig (dig n 1 * m) 1 + 65536 * Long.mcar (dig n 1) m 2 := ST.out 1 1
          have dp := Long.dig_lt (dig n 1 * m) 1
          have pm : dig n 1 * dig m 1 ≤ 65535 * 65535 := Nat.mul_le_mul (by omega) (by omega)
          obtain ⟨pr, hpr⟩ : ∃ pr : Nat, dig n 1 * dig m 1 = pr := ⟨_, rfl⟩
          have hpi : ((dig n 1 : Nat) : Int) * ((dig m 1 : Nat) : Int) = (pr : Int) := by rw [← Int.natCast_mul, hpr]
          rw [hpr] at st pm
          have E1 : (((pr : Nat) : Int) + ((Long.mcar (dig n 1) m 1 : Nat) : Int)) % 65536 = ((dig (dig n 1 * m) 1 : Nat) : Int) := by omega
          have E2 : (((pr : Nat) : Int) + ((Long.mcar (dig n 1) m 1 : Nat) : Int)) / 65536 = ((Long.mcar (dig n 1) m 2 : Nat) : Int) := by omega
          clear st dp hpr dm
          go_wp2
          go_region
          go_wp2
          all_goals go_roundw
          case rel => exact ⟨_, .inr (.inr (.inl ⟨rfl, by rw [E2], by first | rfl | rw [E1]⟩))⟩
          case measure => simp [intOf]
        · have dm := Long.dig_lt m 2
          have c1 := LE.out 1 2
          have st : dig n 1 * dig m 2 + Long.mcar (dig n 1) m 2 = dig (dig n 1 * m) 2 + 65536 * Long.mcar (dig n 1) m 3 := ST.out 1 2
          have dp := Long.dig_lt (dig n 1 * m) 2
          have pm : dig n 1 * dig m 2 ≤ 65535 * 65535 := Nat.mul_le_mul (by omega) (by omega)
          obtain ⟨pr, hpr⟩ : ∃ pr : Nat, dig n 1 * dig m 2 = pr := ⟨_, rfl⟩
          have hpi : ((dig n 1 : Nat) : Int) * ((dig m 2 : Nat) : Int) = (pr : Int) := by rw [← Int.natCast_mul, hpr]
          rw [hpr] at st pm
          have E1 : (((pr : Nat) : Int) + ((Long.mcar (dig n 1) m 2 : Nat) : Int)) % 65536 = ((dig (dig n 1 * m) 2 : Nat) : Int) := by omega
          have E2 : (((pr : Nat) : Int) + ((Long.mcar (dig n 1) m 2 : Nat) : Int)) / 65536 = ((Long.mcar (dig n 1) m 3 : Nat) : Int) := by omega
          clear st dp hpr dm
          go_wp2
          go_region
          go_wp2
          all_goals go_roundw
          case rel => exact ⟨_, .inr (.inr (.inr (.inl ⟨rfl, by rw [E2], by first | rfl | rw [E1]⟩)))⟩
          case measure => simp [intOf]
        · have dm := Long.dig_lt m 3
          have c1 := LE.out 1 3
          have st : dig n 1 * dig m 3 + Long.mcar (dig n 1) m 3 = dig (dig n 1 * m) 3 + 65536 * Long.mcar (dig n 1) m 4 := ST.out 1 3
          have dp := Long.dig_lt (dig n 1 * m) 3
          have pm : dig n 1 * dig m 3 ≤ 65535 * 65535 := Nat.mul_le_mul (by omega) (by omega)
          obtain ⟨pr, hpr⟩ : ∃ pr : Nat, dig n 1 * dig m 3 = pr := ⟨_, rfl⟩
          have hpi : ((dig n 1 : Nat) : Int) * ((dig m 3 : Nat) : Int) = (pr : Int) := by rw [← Int.natCast_mul, hpr]
          rw [hpr] at st pm
          have E1 : (((pr : Nat) : Int) + ((Long.mcar (dig n 1) m 3 : Nat) : Int)) % 65536 = ((dig (dig n 1 * m) 3 : Nat) : Int) := by omega
          have E2 : (((pr : Nat) : Int) + ((Long.mcar (dig n 1) m 3 : Nat) : Int)) / 65536 = ((Long.mcar (dig n 1) m 4 : Nat) : Int) := by omega
          clear st dp hpr dm
          go_wp2
          go_region
          go_wp2
          all_goals go_roundw
          case rel => exact ⟨_, .inr (.inr (.inr (.inr (.inl ⟨rfl, by rw [E2], by first | rfl | rw [E1]⟩))))⟩
          case measure => simp [intOf]
        · have dm := Long.dig_lt m 4
          have c1 := LE.out 1 4
          have st : dig n 1 * dig m 4 + Long.mcar (dig n 1) m 4 = dig (dig n 1 * m) 4 + 65536 * Long.mcar (dig n 1) m 5 := ST.out 1 4
          have dp := Long.dig_lt (dig n 1 * m) 4
          have pm : dig n 1 * dig m 4 ≤ 65535 * 65535 := Nat.mul_le_mul (by omega) (by omega)
          obtain ⟨pr, hpr⟩ : ∃ pr : Nat, dig n 1 * dig m 4 = pr := ⟨_, rfl⟩
          have hpi : ((dig n 1 : Nat) : Int) * ((dig m 4 : Nat) : Int) = (pr : Int) := by rw [← Int.natCast_mul, hpr]
          rw [hpr] at st pm
          have E1 : (((pr : Nat) : Int) + ((Long.mcar (dig n 1) m 4 : Nat) : Int)) % 65536 = ((dig (dig n 1 * m) 4 : Nat) : Int) := by omega
          have E2 : (((pr : Nat) : Int) + ((Long.mcar (dig n 1) m 4 : Nat) : Int)) / 65536 = ((Long.mcar (dig n 1) m 5 : Nat) : Int) := by omega
          clear st dp hpr dm
          go_wp2
          go_region
          go_wp2
          all_goals go_roundw
          case rel => exact ⟨_, .inr (.inr (.inr (.inr (.inr (⟨rfl, by rw [E2], by first | rfl | rw [E1]⟩)))))⟩
          case measure => simp [intOf]
        · have HOo := HO.out
          have hs := HS.out
          have o0 : ∀ o, (wr.alloc o).cell? ⟨w.heap.size + 1 + 1 + 1, 0, none⟩ = some (.bool u) := fun o => ckeep HOo.c0 ((Below.refl _ wr).alloc (Nat.le_refl _) o)
          have p0 : ∀ o, (wr.alloc o).frozen? ⟨w.heap.size + 1 + 1 + 1, 0, none⟩ = false := fun o => by (rw [((Below.refl wr.heap.size wr).alloc (Nat.le_refl _) o).frozen (p := ⟨w.heap.size + 1 + 1 + 1, 0, none⟩) (by show w.heap.size + 1 + 1 + 1 < _; omega)]; exact HOo.f0)
          have o1 : ∀ o, (wr.alloc o).cell? ⟨w.heap.size + 1 + 1 + 1, 1, none⟩ = some (.int .u32 (dig (n % 65536 ^ 1 * m) 0 : Nat)) := fun o => ckeep HOo.c1 ((Below.refl _ wr).alloc (Nat.le_refl _) o)
          have p1 : ∀ o, (wr.alloc o).frozen? ⟨w.heap.size + 1 + 1 + 1, 1, none⟩ = false := fun o => by (rw [((Below.refl wr.heap.size wr).alloc (Nat.le_refl _) o).frozen (p := ⟨w.heap.size + 1 + 1 + 1, 1, none⟩) (by show w.heap.size + 1 + 1 + 1 < _; omega)]; exact HOo.f1)
          have o2 : ∀ o, (wr.alloc o).cell? ⟨w.heap.size + 1 + 1 + 1, 2, none⟩ = some (.int .u32 (dig (n % 65536 ^ 1 * m) 1 : Nat)) := fun o => ckeep HOo.c2 ((Below.refl _ wr).alloc (Nat.le_refl _) o)
          have p2 : ∀ o, (wr.alloc o).frozen? ⟨w.heap.size + 1 + 1 + 1, 2, none⟩ = false := fun o => by (rw [((Below.refl wr.heap.size wr).alloc (Nat.le_refl _) o).frozen (p := ⟨w.heap.size + 1 + 1 + 1, 2, none⟩) (by show w.heap.size + 1 + 1 + 1 < _; omega)]; exact HOo.f2)
          have o3 : ∀ o, (wr.alloc o).cell? ⟨w.heap.size + 1 + 1 + 1, 3, none⟩ = some (.int .u32 (dig (n % 65536 ^ 1 * m) 2 : Nat)) := fun o => ckeep HOo.c3 ((Below.refl _ wr).alloc (Nat.le_refl _) o)
          have p3 : ∀ o, (wr.alloc o).frozen? ⟨w.heap.size + 1 + 1 + 1, 3, none⟩ = false := fun o => by (rw [((Below.refl wr.heap.size wr).alloc (Nat.le_refl _) o).frozen (p := ⟨w.heap.size + 1 + 1 + 1, 3, none⟩) (by show w.heap.size + 1 + 1 + 1 < _; omega)]; exact HOo.f3)
          have o4 : ∀ o, (wr.alloc o).cell? ⟨w.heap.size + 1 + 1 + 1, 4, none⟩ = some (.int .u32 (dig (n % 65536 ^ 1 * m) 3 : Nat)) := fun o => ckeep HOo.c4 ((Below.refl _ wr).alloc (Nat.le_refl _) o)
          have p4 : ∀ o, (wr.alloc o).frozen? ⟨w.heap.size + 1 + 1 + 1, 4, none⟩ = false := fun o => by (rw [((Below.refl wr.heap.size wr).alloc (Nat.le_refl _) o).frozen (p := ⟨w.heap.size + 1 + 1 + 1, 4, none⟩) (by show w.heap.size + 1 + 1 + 1 < _; omega)]; exact HOo.f4)
          have o5 : ∀ o, (wr.alloc o).cell? ⟨w.heap.size + 1 + 1 + 1, 5, none⟩ = some (.int .u32 (dig (n % 65536 ^ 1 * m) 4 : Nat)) := fun o => ckeep HOo.c5 ((Below.refl _ wr).alloc (Nat.le_refl _) o)
          have p5 : ∀ o, (wr.alloc o).frozen? ⟨w.heap.size + 1 + 1 + 1, 5, none⟩ = false := fun o => by (rw [((Below.refl wr.heap.size wr).alloc (Nat.le_refl _) o).frozen (p := ⟨w.heap.size + 1 + 1 + 1, 5, none⟩) (by show w.heap.size + 1 + 1 + 1 < _; omega)]; exact HOo.f5)
          have o6 : ∀ o, (wr.alloc o).cell? ⟨w.heap.size + 1 + 1 + 1, 6, none⟩ = some (.int .u32 (dig (n % 65536 ^ 1 * m) 5 : Nat)) := fun o => ckeep HOo.c6 ((Below.refl _ wr).alloc (Nat.le_refl _) o)
          have p6 : ∀ o, (wr.alloc o).frozen? ⟨w.heap.size + 1 + 1 + 1, 6, none⟩ = false := fun o => by (rw [((Below.refl wr.heap.size wr).alloc (Nat.le_refl _) o).frozen (p := ⟨w.heap.size + 1 + 1 + 1, 6, none⟩) (by show w.heap.size + 1 + 1 + 1 < _; omega)]; exact HOo.f6)
          have o7 : ∀ o, (wr.alloc o).cell? ⟨w.heap.size + 1 + 1 + 1, 7, none⟩ = some (.int .u32 (dig (n % 65536 ^ 1 * m) 6 : Nat)) := fun o => ckeep HOo.c7 ((Below.refl _ wr).alloc (Nat.le_refl _) o)
          have p7 : ∀ o, (wr.alloc o).frozen? ⟨w.heap.size + 1 + 1 + 1, 7, none⟩ = false := fun o => by (rw [((Below.refl wr.heap.size wr).alloc (Nat.le_refl _) o).frozen (p := ⟨w.heap.size + 1 + 1 + 1, 7, none⟩) (by show w.heap.size + 1 + 1 + 1 < _; omega)]; exact HOo.f7)
          have o8 : ∀ o, (wr.alloc o).cell? ⟨w.heap.size + 1 + 1 + 1, 8, none⟩ = some (.int .u32 (dig (n % 65536 ^ 1 * m) 7 : Nat)) := fun o => ckeep HOo.c8 ((Below.refl _ wr).alloc (Nat.le_refl _) o)
          have p8 : ∀ o, (wr.alloc o).frozen? ⟨w.heap.size + 1 + 1 + 1, 8, none⟩ = false := fun o => by (rw [((Below.refl wr.heap.size wr).alloc (Nat.le_refl _) o).frozen (p := ⟨w.heap.size + 1 + 1 + 1, 8, none⟩) (by show w.heap.size + 1 + 1 + 1 < _; omega)]; exact HOo.f8)
          have o9 : ∀ o, (wr.alloc o).cell? ⟨w.heap.size + 1 + 1 + 1, 9, none⟩ = some (.int .u32 (dig (n % 65536 ^ 1 * m) 8 : Nat)) := fun o => ckeep HOo.c9 ((Below.refl _ wr).alloc (Nat.le_refl _) o)
          have p9 : ∀ o, (wr.alloc o).frozen? ⟨w.heap.size + 1 + 1 + 1, 9, none⟩ = false := fun o => by (rw [((Below.refl wr.heap.size wr).alloc (Nat.le_refl _) o).frozen (p := ⟨w.heap.size + 1 + 1 + 1, 9, none⟩) (by show w.heap.size + 1 + 1 + 1 < _; omega)]; exact HOo.f9)
          clear HOo aA bB0 bB1 bB2 bB3 bB4
          go_wp2_with fail
          go_at_call 42
          with_reducible refine (M1.out _).mono ?_
          rintro e w5 ⟨rfl, hb5⟩
          have lt5 : w.heap.size + 1 + 1 + 1 < ((wr.alloc (.cells #[.int .u32 0, .int .u32 (dig (dig n 1 * m) 0 : Nat), .int .u32 (dig (dig n 1 * m) 1 : Nat), .int .u32 (dig (dig n 1 * m) 2 : Nat), .int .u32 (dig (dig n 1 * m) 3 : Nat), .int .u32 (dig (dig n 1 * m) 4 : Nat), .int .u32 0, .int .u32 0, .int .u32 0] 41)).drewN q).heap.size := by (show w.heap.size + 1 + 1 + 1 < (wr.alloc _).heap.size; simp; omega)
          have g0 : w5.cell? ⟨w.heap.size + 1 + 1 + 1, 0, none⟩ = some (.bool u) := by (rw [hb5.cell (p := ⟨w.heap.size + 1 + 1 + 1, 0, none⟩) lt5]; exact o0 _)
          have f0 : w5.frozen? ⟨w.heap.size + 1 + 1 + 1, 0, none⟩ = false := by (rw [hb5.frozen (p := ⟨w.heap.size + 1 + 1 + 1, 0, none⟩) lt5]; exact p0 _)
          have g1 : w5.cell? ⟨w.heap.size + 1 + 1 + 1, 1, none⟩ = some (.int .u32 (dig (n % 65536 ^ 1 * m) 0 : Nat)) := by (rw [hb5.cell (p := ⟨w.heap.size + 1 + 1 + 1, 1, none⟩) lt5]; exact o1 _)
          have f1 : w5.frozen? ⟨w.heap.size + 1 + 1 + 1, 1, none⟩ = false := by (rw [hb5.frozen (p := ⟨w.heap.size + 1 + 1 + 1, 1, none⟩) lt5]; exact p1 _)
          have g2 : w5.cell? ⟨w.heap.size + 1 + 1 + 1, 2, none⟩ = some (.int .u32 (dig (n % 65536 ^ 1 * m) 1 : Nat)) := by (rw [hb5.cell (p := ⟨w.heap.size + 1 + 1 + 1, 2, none⟩) lt5]; exact o2 _)
          have f2 : w5.frozen? ⟨w.heap.size + 1 + 1 + 1, 2, none⟩ = false := by (rw [hb5.frozen (p := ⟨w.heap.size + 1 + 1 + 1, 2, none⟩) lt5]; exact p2 _)
          have g3 : w5.cell? ⟨w.heap.size + 1 + 1 + 1, 3, none⟩ = some (.int .u32 (dig (n % 65536 ^ 1 * m) 2 : Nat)) := by (rw [hb5.cell (p := ⟨w.heap.size + 1 + 1 + 1, 3, none⟩) lt5]; exact o3 _)
          have f3 : w5.frozen? ⟨w.heap.size + 1 + 1 + 1, 3, none⟩ = false := by (rw [hb5.frozen (p := ⟨w.heap.size + 1 + 1 + 1, 3, none⟩) lt5]; exact p3 _)
          have g4 : w5.cell? ⟨w.heap.size + 1 + 1 + 1, 4, none⟩ = some (.int .u32 (dig (n % 65536 ^ 1 * m) 3 : Nat)) := by (rw [hb5.cell (p := ⟨w.heap.size + 1 + 1 + 1, 4, none⟩) lt5]; exact o4 _)
          have f4 : w5.frozen? ⟨w.heap.size + 1 + 1 + 1, 4, none⟩ = false := by (rw [hb5.frozen (p := ⟨w.heap.size + 1 + 1 + 1, 4, none⟩) lt5]; exact p4 _)
          have g5 : w5.cell? ⟨w.heap.size + 1 + 1 + 1, 5, none⟩ = some (.int .u32 (dig (n % 65536 ^ 1 * m) 4 : Nat)) := by (rw [hb5.cell (p := ⟨w.heap.size + 1 + 1 + 1, 5, none⟩) lt5]; exact o5 _)
          have f5 : w5.frozen? ⟨w.heap.size + 1 + 1 + 1, 5, none⟩ = false := by (rw [hb5.frozen (p := ⟨w.heap.size + 1 + 1 + 1, 5, none⟩) lt5]; exact p5 _)
          have g6 : w5.cell? ⟨w.heap.size + 1 + 1 + 1, 6, none⟩ = some (.int .u32 (dig (n % 65536 ^ 1 * m) 5 : Nat)) := by (rw [hb5.cell (p := ⟨w.heap.size + 1 + 1 + 1, 6, none⟩) lt5]; exact o6 _)
          have f6 : w5.frozen? ⟨w.heap.size + 1 + 1 + 1, 6, none⟩ = false := by (rw [hb5.frozen (p := ⟨w.heap.size + 1 + 1 + 1, 6, none⟩) lt5]; exact p6 _)
          have g7 : w5.cell? ⟨w.heap.size + 1 + 1 + 1, 7, none⟩ = some (.int .u32 (dig (n % 65536 ^ 1 * m) 6 : Nat)) := by (rw [hb5.cell (p := ⟨w.heap.size + 1 + 1 + 1, 7, none⟩) lt5]; exact o7 _)
          have f7 : w5.frozen? ⟨w.heap.size + 1 + 1 + 1, 7, none⟩ = false := by (rw [hb5.frozen (p := ⟨w.heap.size + 1 + 1 + 1, 7, none⟩) lt5]; exact p7 _)
          have g8 : w5.cell? ⟨w.heap.size + 1 + 1 + 1, 8, none⟩ = some (.int .u32 (dig (n % 65536 ^ 1 * m) 7 : Nat)) := by (rw [hb5.cell (p := ⟨w.heap.size + 1 + 1 + 1, 8, none⟩) lt5]; exact o8 _)
          have f8 : w5.frozen? ⟨w.heap.size + 1 + 1 + 1, 8, none⟩ = false := by (rw [hb5.frozen (p := ⟨w.heap.size + 1 + 1 + 1, 8, none⟩) lt5]; exact p8 _)
          have g9 : w5.cell? ⟨w.heap.size + 1 + 1 + 1, 9, none⟩ = some (.int .u32 (dig (n % 65536 ^ 1 * m) 8 : Nat)) := by (rw [hb5.cell (p := ⟨w.heap.size + 1 + 1 + 1, 9, none⟩) lt5]; exact o9 _)
          have f9 : w5.frozen? ⟨w.heap.size + 1 + 1 + 1, 9, none⟩ = false := by (rw [hb5.frozen (p := ⟨w.heap.size + 1 + 1 + 1, 9, none⟩) lt5]; exact p9 _)
          have z3 : Below (w.heap.size + 1 + 1 + 1) ((((w.alloc (.cells #[.bool s, .int .u32 (dig n 0 : Nat), .int .u32 (dig n 1 : Nat), .int .u32 (dig n 2 : Nat), .int .u32 (dig n 3 : Nat), .int .u32 (dig n 4 : Nat), .int .u32 (dig n 5 : Nat), .int .u32 (dig n 6 : Nat), .int .u32 (dig n 7 : Nat), .int .u32 (dig n 8 : Nat)] 43)).alloc (.cells #[.bool t, .int .u32 (dig m 0 : Nat), .int .u32 (dig m 1 : Nat), .int .u32 (dig m 2 : Nat), .int .u32 (dig m 3 : Nat), .int .u32 (dig m 4 : Nat), .int .u32 (dig m 5 : Nat), .int .u32 (dig m 6 : Nat), .int .u32 (dig m 7 : Nat), .int .u32 (dig m 8 : Nat)] 43)).alloc (.cells #[.bool false, .int .u32 0, .int .u32 0, .int .u32 0, .int .u32 0, .int .u32 0, .int .u32 0, .int .u32 0, .int .u32 0, .int .u32 0] 43)).alloc (.cells #[.bool u, .int .u32 0, .int .u32 0, .int .u32 0, .int .u32 0, .int .u32 0, .int .u32 0, .int .u32 0, .int .u32 0, .int .u32 0] 43)) w5 := Below.trans (below_drewN' (HB.out.alloc (by omega) _) q) (hb5.mono (Nat.le_of_lt lt5))
          have H5 := Lib.hid z3
          have S5 : w.heap.size + 1 + 1 + 1 + 1 ≤ w5.heap.size := Nat.le_trans lt5 hb5.size
          have S5 := Lib.hid S5
          clear z3 hb5 lt5 hs o0 p0 o1 p1 o2 p2 o3 p3 o4 p4 o5 p5 o6 p6 o7 p7 o8 p8 o9 p9
          go_wp2
          obtain ⟨wf, hwf, r0, r1, r2, r3, r4, r5, r6, r7, r8, r9, q0, q1, q2, q3, q4, q5, q6, q7, q8, q9, bf⟩ : ∃ wf, (((((((((w5.setCell ⟨w.heap.size + 1 + 1 + 1, 1, none⟩ (.int .u32 (dig (n % 65536 ^ 2 * m) 0 : Nat))).setCell ⟨w.heap.size + 1 + 1 + 1, 2, none⟩ (.int .u32 (dig (n % 65536 ^ 2 * m) 1 : Nat))).setCell ⟨w.heap.size + 1 + 1 + 1, 3, none⟩ (.int .u32 (dig (n % 65536 ^ 2 * m) 2 : Nat))).setCell ⟨w.heap.size + 1 + 1 + 1, 4, none⟩ (.int .u32 (dig (n % 65536 ^ 2 * m) 3 : Nat))).setCell ⟨w.heap.size + 1 + 1 + 1, 5, none⟩ (.int .u32 (dig (n % 65536 ^ 2 * m) 4 : Nat))).setCell ⟨w.heap.size + 1 + 1 + 1, 6, none⟩ (.int .u32 (dig (n % 65536 ^ 2 * m) 5 : Nat))).setCell ⟨w.heap.size + 1 + 1 + 1, 7, none⟩ (.int .u32 (dig (n % 65536 ^ 2 * m) 6 : Nat))).setCell ⟨w.heap.size + 1 + 1 + 1, 8, none⟩ (.int .u32 (dig (n % 65536 ^ 2 * m) 7 : Nat))).setCell ⟨w.heap.size + 1 + 1 + 1, 9, none⟩ (.int .u32 (dig (n % 65536 ^ 2 * m) 8 : Nat))) = wf ∧ wf.cell? ⟨w.heap.size + 1 + 1 + 1, 0, none⟩ = some (.bool u) ∧ wf.cell? ⟨w.heap.size + 1 + 1 + 1, 1, none⟩ = some (.int .u32 (dig (n % 65536 ^ 2 * m) 0 : Nat)) ∧ wf.cell? ⟨w.heap.size + 1 + 1 + 1, 2, none⟩ = some (.int .u32 (dig (n % 65536 ^ 2 * m) 1 : Nat)) ∧ wf.cell? ⟨w.heap.size + 1 + 1 + 1, 3, none⟩ = some (.int .u32 (dig (n % 65536 ^ 2 * m) 2 : Nat)) ∧ wf.cell? ⟨w.heap.size + 1 + 1 + 1, 4, none⟩ = some (.int .u32 (dig (n % 65536 ^ 2 * m) 3 : Nat)) ∧ wf.cell? ⟨w.heap.size + 1 + 1 + 1, 5, none⟩ = some (.int .u32 (dig (n % 65536 ^ 2 * m) 4 : Nat)) ∧ wf.cell? ⟨w.heap.size + 1 + 1 + 1, 6, none⟩ = some (.int .u32 (dig (n % 65536 ^ 2 * m) 5 : Nat)) ∧ wf.cell? ⟨w.heap.size + 1 + 1 + 1, 7, none⟩ = some (.int .u32 (dig (n % 65536 ^ 2 * m) 6 : Nat)) ∧ wf.cell? ⟨w.heap.size + 1 + 1 + 1, 8, none⟩ = some (.int .u32 (dig (n % 65536 ^ 2 * m) 7 : Nat)) ∧ wf.cell? ⟨w.heap.size + 1 + 1 + 1, 9, none⟩ = some (.int .u32 (dig (n % 65536 ^ 2 * m) 8 : Nat)) ∧ wf.frozen? ⟨w.heap.size + 1 + 1 + 1, 0, none⟩ = false ∧ wf.frozen? ⟨w.heap.size + 1 + 1 + 1, 1, none⟩ = false ∧ wf.frozen? ⟨w.heap.size + 1 + 1 + 1, 2, none⟩ = false ∧ wf.frozen? ⟨w.heap.size + 1 + 1 + 1, 3, none⟩ = false ∧ wf.frozen? ⟨w.heap.size + 1 + 1 + 1, 4, none⟩ = false ∧ wf.frozen? ⟨w.heap.size + 1 + 1 + 1, 5, none⟩ = false ∧ wf.frozen? ⟨w.heap.size + 1 + 1 + 1, 6, none⟩ = false ∧ wf.frozen? ⟨w.heap.size + 1 + 1 + 1, 7, none⟩ = false ∧ wf.frozen? ⟨w.heap.size + 1 + 1 + 1, 8, none⟩ = false ∧ wf.frozen? ⟨w.heap.size + 1 + 1 + 1, 9, none⟩ = false ∧ Hid (Below (w.heap.size + 1 + 1 + 1) w5 wf) := by
            refine ⟨_, rfl, ?_, ?_, ?_, ?_, ?_, ?_, ?_, ?_, ?_, ?_, ?_, ?_, ?_, ?_, ?_, ?_, ?_, ?_, ?_, ?_, Lib.hid (by (iterate 9 (refine Below.setCell (p := ⟨w.heap.size + 1 + 1 + 1, _, none⟩) ?_ (Nat.le_refl (w.heap.size + 1 + 1 + 1)) _)); exact Below.refl _ _)⟩ <;> go_simp
          rw [hwf]
          clear hwf g0 f0 g1 f1 g2 f2 g3 f3 g4 f4 g5 f5 g6 f6 g7 f7 g8 f8 g9 f9
          have OO := Lib.hid (show Out (w.heap.size + 1 + 1 + 1) u (n % 65536 ^ 2 * m) wf from ⟨r0, r1, r2, r3, r4, r5, r6, r7, r8, r9, q0, q1, q2, q3, q4, q5, q6, q7, q8, q9⟩)
          clear r0 q0 r1 q1 r2 q2 r3 q3 r4 q4 r5 q5 r6 q6 r7 q7 r8 q8 r9 q9
          all_goals go_roundw
          case rel => exact .inr (.inr (.inl ⟨rfl, OO, Lib.hid (Below.trans H5.out bf.out), Lib.hid (Nat.le_trans S5.out bf.out.size)⟩))
          case measure => simp [intOf]
    · have hb := HB.out
      have hs := HS.out
      have a2 : wr.cell? ⟨w.heap.size, 3, none⟩ = some (.int .u32 (dig n 2 : Nat)) := by (rw [hb.cell (p := ⟨w.heap.size, 3, none⟩) (by show w.heap.size < _; omega)]; go_simp)
      have b0 : wr.cell? ⟨w.heap.size + 1, 1, none⟩ = some (.int .u32 (dig m 0 : Nat)) := by (rw [hb.cell (p := ⟨w.heap.size + 1, 1, none⟩) (by show w.heap.size + 1 < _; omega)]; go_simp)
      have b1 : wr.cell? ⟨w.heap.size + 1, 2, none⟩ = some (.int .u32 (dig m 1 : Nat)) := by (rw [hb.cell (p := ⟨w.heap.size + 1, 2, none⟩) (by show w.heap.size + 1 < _; omega)]; go_simp)
      have b2 : wr.cell? ⟨w.heap.size + 1, 3, none⟩ = some (.int .u32 (dig m 2 : Nat)) := by (rw [hb.cell (p := ⟨w.heap.size + 1, 3, none⟩) (by show w.heap.size + 1 < _; omega)]; go_simp)
      have b3 : wr.cell? ⟨w.heap.size + 1, 4, none⟩ = some (.int .u32 (dig m 3 : Nat)) := by (rw [hb.cell (p := ⟨w.heap.size + 1, 4, none⟩) (by show w.heap.size + 1 < _; omega)]; go_simp)
      have b4 : wr.cell? ⟨w.heap.size + 1, 5, none⟩ = some (.int .u32 (dig m 4 : Nat)) := by (rw [hb.cell (p := ⟨w.heap.size + 1, 5, none⟩) (by show w.heap.size + 1 < _; omega)]; go_simp)
      have A := Lib.hid (fun o => (ckeep a2 ((Below.refl _ wr).alloc (Nat.le_refl _) o)))
      have aA : ∀ o, (wr.alloc o).cell? ⟨w.heap.size, 3, none⟩ = some (.int .u32 (dig n 2 : Nat)) := fun o => ckeep a2 ((Below.refl _ wr).alloc (Nat.le_refl _) o)
      have bB0 : ∀ o, (wr.alloc o).cell? ⟨w.heap.size + 1, 1, none⟩ = some (.int .u32 (dig m 0 : Nat)) := fun o => ckeep b0 ((Below.refl _ wr).alloc (Nat.le_refl _) o)
      have bB1 : ∀ o, (wr.alloc o).cell? ⟨w.heap.size + 1, 2, none⟩ = some (.int .u32 (dig m 1 : Nat)) := fun o => ckeep b1 ((Below.refl _ wr).alloc (Nat.le_refl _) o)
      have bB2 : ∀ o, (wr.alloc o).cell? ⟨w.heap.size + 1, 3, none⟩ = some (.int .u32 (dig m 2 : Nat)) := fun o => ckeep b2 ((Below.refl _ wr).alloc (Nat.le_refl _) o)
      have bB3 : ∀ o, (wr.alloc o).cell? ⟨w.heap.size + 1, 4, none⟩ = some (.int .u32 (dig m 3 : Nat)) := fun o => ckeep b3 ((Below.refl _ wr).alloc (Nat.le_refl _) o)
      have bB4 : ∀ o, (wr.alloc o).cell? ⟨w.heap.size + 1, 5, none⟩ = some (.int .u32 (dig m 4 : Nat)) := fun o => ckeep b4 ((Below.refl _ wr).alloc (Nat.le_refl _) o)
      clear hb hs a2 A b0 b1 b2 b3 b4
      have da := Long.dig_lt n 2
      go_wp2
      go_loopw [8, 9] (fun c kk wi => ∃ q : Nat, (kk = .int .i64 0 ∧ c = .int .u32 (Long.mcar (dig n 2) m 0 : Nat) ∧ wi = (wr.alloc (.cells #[.int .u32 0, .int .u32 0, .int .u32 0, .int .u32 0, .int .u32 0, .int .u32 0, .int .u32 0, .int .u32 0, .int .u32 0] 41)).drewN q) ∨ (kk = .int .i64 1 ∧ c = .int .u32 (Long.mcar (dig n 2) m 1 : Nat) ∧ wi = (wr.alloc (.cells #[.int .u32 0, .int .u32 0, .int .u32 (dig (dig n 2 * m) 0 : Nat), .int .u32 0, .int .u32 0, .int .u32 0, .int .u32 0, .int .u32 0, .int .u32 0] 41)).drewN q) ∨ (kk = .int .i64 2 ∧ c = .int .u32 (Long.mcar (dig n 2) m 2 : Nat) ∧ wi = (wr.alloc (.cells #[.int .u32 0, .int .u32 0, .int .u32 (dig (dig n 2 * m) 0 : Nat), .int .u32 (dig (dig n 2 * m) 1 : Nat), .int .u32 0, .int .u32 0, .int .u32 0, .int .u32 0, .int .u32 0] 41)).drewN q) ∨ (kk = .int .i64 3 ∧ c = .int .u32 (Long.mcar (dig n 2) m 3 : Nat) ∧ wi = (wr.alloc (.cells #[.int .u32 0, .int .u32 0, .int .u32 (dig (dig n 2 * m) 0 : Nat), .int .u32 (dig (dig n 2 * m) 1 : Nat), .int .u32 (dig (dig n 2 * m) 2 : Nat), .int .u32 0, .int .u32 0, .int .u32 0, .int .u32 0] 41)).drewN q) ∨ (kk = .int .i64 4 ∧ c = .int .u32 (Long.mcar (dig n 2) m 4 : Nat) ∧ wi = (wr.alloc (.cells #[.int .u32 0, .int .u32 0, .int .u32 (dig (dig n 2 * m) 0 : Nat), .int .u32 (dig (dig n 2 * m) 1 : Nat), .int .u32 (dig (dig n 2 * m) 2 : Nat), .int .u32 (dig (dig n 2 * m) 3 : Nat), .int .u32 0, .int .u32 0, .int .u32 0] 41)).drewN q) ∨ (kk = .int .i64 5 ∧ c = .int .u32 (Long.mcar (dig n 2) m 5 : Nat) ∧ wi = (wr.alloc (.cells #[.int .u32 0, .int .u32 0, .int .u32 (dig (dig n 2 * m) 0 : Nat), .int .u32 (dig (dig n 2 * m) 1 : Nat), .int .u32 (dig (dig n 2 * m) 2 : Nat), .int .u32 (dig (dig n 2 * m) 3 : Nat), .int .u32 (dig (dig n 2 * m) 4 : Nat), .int .u32 0, .int .u32 0] 41)).drewN q)) (fun _ kk _ => (6 - intOf kk).toNat)
      case atStart => exact ⟨0, .inl ⟨rfl, by rw [Long.mcar_zero]; rfl, rfl⟩⟩
      case round =>
        obtain ⟨q, hrel⟩ := hrel
        rcases hrel with ⟨rfl, rfl, rfl⟩ | ⟨rfl, rfl, rfl⟩ | ⟨rfl, rfl, rfl⟩ | ⟨rfl, rfl, rfl⟩ | ⟨rfl, rfl, rfl⟩ | ⟨rfl, rfl, rfl⟩
        · have dm := Long.dig_lt m 0
          have c1 := LE.out 2 0
          have st : dig n 2 * dig m 0 + Long.mcar (dig n 2) m 0 = dig (dig n 2 * m) 0 + 65536 * Long.mcar (dig n 2) m 1 := ST.out 2 0
          have dp := Long.dig_lt (dig n 2 * m) 0
          have pm : dig n 2 * dig m 0 ≤ 65535 * 65535 := Nat.mul_le_mul (by omega) (by omega)
          obtain ⟨pr, hpr⟩ : ∃ pr : Nat, dig n 2 * dig m 0 = pr := ⟨_, rfl⟩
          have hpi : ((dig n 2 : Nat) : Int) * ((dig m 0 : Nat) : Int) = (pr : Int) := by rw [← Int.natCast_mul, hpr]
          rw [hpr] at st pm
          have E1 : (((pr : Nat) : Int) + ((Long.mcar (dig n 2) m 0 : Nat) : Int)) % 65536 = ((dig (dig n 2 * m) 0 : Nat) : Int) := by omega
          have E2 : (((pr : Nat) : Int) + ((Long.mcar (dig n 2) m 0 : Nat) : Int)) / 65536 = ((Long.mcar (dig n 2) m 1 : Nat) : Int) := by omega
          clear st dp hpr dm
          go_wp2
          go_region
          go_wp2
          all_goals go_roundw
          case rel => exact ⟨_, .inr (.inl ⟨rfl, by rw [E2], by first | rfl | rw [E1]⟩)⟩
          case measure => simp [intOf]
        · have dm := Long.dig_lt m 1
          have c1 := LE.out 2 1
          have st : dig n 2 * dig m 1 + Long.mcar (dig n 2) m 1 = dig (dig n 2 * m) 1 + 65536 * Long.mcar (dig n 2) m 2 := ST.out 2 1
          have dp := Long.dig_lt (dig n 2 * m) 1
          have pm : dig n 2 * dig m 1 ≤ 65535 * 65535 := Nat.mul_le_mul (by omega) (by omega)
          obtain ⟨pr, hpr⟩ : ∃ pr : Nat, dig n 2 * dig m 1 = pr := ⟨_, rfl⟩
          have hpi : ((dig n 2 : Nat) : Int) * ((dig m 1 : Nat) : Int) = (pr : Int) := by rw [← Int.natCast_mul, hpr]
          rw [hpr] at st pm
          have E1 : (((pr : Nat) : Int) + ((Long.mcar (dig n 2) m 1 : Nat) : Int)) % 65536 = ((dig (dig n 2 * m) 1 : Nat) : Int) := by omega
          have E2 : (((pr : Nat) : Int) + ((Long.mcar (dig n 2) m 1 : Nat) : Int)) / 65536 = ((Long.mcar (dig n 2) m 2 : Nat) : Int) := by omega
          clear st dp hpr dm
          go_wp2
          go_region
          go_wp2
          all_goals go_roundw
          case rel => exact ⟨_, .inr (.inr (.inl ⟨rfl, by rw [E2], by first | rfl | rw [E1]⟩))⟩
          case measure => simp [intOf]
        · have dm := Long.dig_lt m 2
          have c1 := LE.out 2 2
          have st : dig n 2 * dig m 2 + Long.mcar (dig n 2) m 2 = dig (dig n 2 * m) 2 + 65536 * Long.mcar (dig n 2) m 3 := ST.out 2 2
          have dp := Long.dig_lt (dig n 2 * m) 2
          have pm : dig n 2 * dig m 2 ≤ 65535 * 65535 := Nat.mul_le_mul (by omega) (by omega)
          obtain ⟨pr, hpr⟩ : ∃ pr : Nat, dig n 2 * dig m 2 = pr := ⟨_, rfl⟩
          have hpi : ((dig n 2 : Nat) : Int) * ((dig m 2 : Nat) : Int) = (pr : Int) := by rw [← Int.natCast_mul, hpr]
          rw [hpr] at st pm
          have E1 : (((pr : Nat) : Int) + ((Long.mcar (dig n 2) m 2 : Nat) : Int)) % 65536 = ((dig (dig n 2 * m) 2 : Nat) : Int) := by omega
          have E2 : (((pr : Nat) : Int) + ((Long.mcar (dig n 2) m 2 : Nat) : Int)) / 65536 = ((Long.mcar (dig n 2) m 3 : Nat) : Int) := by omega
          clear st dp hpr dm
          go_wp2
          go_region
          go_wp2
          all_goals go_roundw
          case rel => exact ⟨_, .inr (.inr (.inr (.inl ⟨rfl, by rw [E2], by first | rfl | rw [E1]⟩)))⟩
          case measure => simp [intOf]
        · have dm := Long.dig_lt m 3
          have c1 := LE.out 2 3
          have st : dig n 2 * dig m 3 + Long.mcar (dig n 2) m 3 = dig (dig n 2 * m) 3 + 65536 * Long.mcar (dig n 2) m 4 := ST.out 2 3
          have dp := Long.dig_lt (dig n 2 * m) 3
          have pm : dig n 2 * dig m 3 ≤ 65535 * 65535 := Nat.mul_le_mul (by omega) (by omega)
          obtain ⟨pr, hpr⟩ : ∃ pr : Nat, dig n 2 * dig m 3 = pr := ⟨_, rfl⟩
          have hpi : ((dig n 2 : Nat) : Int) * ((dig m 3 : Nat) : Int) = (pr : Int) := by rw [← Int.natCast_mul, hpr]
          rw [hpr] at st pm
          have E1 : (((pr : Nat) : Int) + ((Long.mcar (dig n 2) m 3 : Nat) : Int)) % 65536 = ((dig (dig n 2 * m) 3 : Nat) : Int) := by omega
          have E2 : (((pr : Nat) : Int) + ((Long.mcar (dig n 2) m 3 : Nat) : Int)) / 65536 = ((Long.mcar (dig n 2) m 4 : Nat) : Int) := by omega
          clear st dp hpr dm
          go_wp2
          go_region
          go_wp2
          all_goals go_roundw
          case rel => exact ⟨_, .inr (.inr (.inr (.inr (.inl ⟨rfl, by rw [E2], by first | rfl | rw [E1]⟩))))⟩
          case measure => simp [intOf]
        · have dm := Long.dig_lt m 4
          have c1 := LE.out 2 4
          have st : dig n 2 * dig m 4 + Long.mcar (dig n 2) m 4 = dig (dig n 2 * m) 4 + 65536 * Long.mcar (dig n 2) m 5 := ST.out 2 4
          have dp := Long.dig_lt (dig n 2 * m) 4
          have pm : dig n 2 * dig m 4 ≤ 65535 * 65535 := Nat.mul_le_mul (by omega) (by omega)
          obtain ⟨pr, hpr⟩ : ∃ pr : Nat, dig n 2 * dig m 4 = pr := ⟨_, rfl⟩
          have hpi : ((dig n 2 : Nat) : Int) * ((dig m 4 : Nat) : Int) = (pr : Int) := by rw [← Int.natCast_mul, hpr]
          rw [hpr] at st pm
          have E1 : (((pr : Nat) : Int) + ((Long.mcar (dig n 2) m 4 : Nat) : Int)) % 65536 = ((dig (dig n 2 * m) 4 : Nat) : Int) := by omega
          have E2 : (((pr : Nat) : Int) + ((Long.mcar (dig n 2) m 4 : Nat) : Int)) / 65536 = ((Long.mcar (dig n 2) m 5 : Nat) : Int) := by omega
          clear st dp hpr dm
          go_wp2
          go_region
          go_wp2
          all_goals go_roundw
          case rel => exact ⟨_, .inr (.inr (.inr (.inr (.inr (⟨rfl, by rw [E2], by first | rfl | rw [E1]⟩)))))⟩
          case measure => simp [intOf]
        · have HOo := HO.out
          have hs := HS.out
          have o0 : ∀ o, (wr.alloc o).cell? ⟨w.heap.size + 1 + 1 + 1, 0, none⟩ = some (.bool u) := fun o => ckeep HOo.c0 ((Below.refl _ wr).alloc (Nat.le_refl _) o)
          have p0 : ∀ o, (wr.alloc o).frozen? ⟨w.heap.size + 1 + 1 + 1, 0, none⟩ = false := fun o => by (rw [((Below.refl wr.heap.size wr).alloc (Nat.le_refl _) o).frozen (p := ⟨w.heap.size + 1 + 1 + 1, 0, none⟩) (by show w.heap.size + 1 + 1 + 1 < _; omega)]; exact HOo.f0)
          have o1 : ∀ o, (wr.alloc o).cell? ⟨w.heap.size + 1 + 1 + 1, 1, none⟩ = some (.int .u32 (dig (n % 65536 ^ 2 * m) 0 : Nat)) := fun o => ckeep HOo.c1 ((Below.refl _ wr).alloc (Nat.le_refl _) o)
          have p1 : ∀ o, (wr.alloc o).frozen? ⟨w.heap.size + 1 + 1 + 1, 1, none⟩ = false := fun o => by (rw [((Below.refl wr.heap.size wr).alloc (Nat.le_refl _) o).frozen (p := ⟨w.heap.size + 1 + 1 + 1, 1, none⟩) (by show w.heap.size + 1 + 1 + 1 < _; omega)]; exact HOo.f1)
          have o2 : ∀ o, (wr.alloc o).cell? ⟨w.heap.size + 1 + 1 + 1, 2, none⟩ = some (.int .u32 (dig (n % 65536 ^ 2 * m) 1 : Nat)) := fun o => ckeep HOo.c2 ((Below.refl _ wr).alloc (Nat.le_refl _) o)
          have p2 : ∀ o, (wr.alloc o).frozen? ⟨w.heap.size + 1 + 1 + 1, 2, none⟩ = false := fun o => by (rw [((Below.refl wr.heap.size wr).alloc (Nat.le_refl _) o).frozen (p := ⟨w.heap.size + 1 + 1 + 1, 2, none⟩) (by show w.heap.size + 1 + 1 + 1 < _; omega)]; exact HOo.f2)
          have o3 : ∀ o, (wr.alloc o).cell? ⟨w.heap.size + 1 + 1 + 1, 3, none⟩ = some (.int .u32 (dig (n % 65536 ^ 2 * m) 2 : Nat)) := fun o => ckeep HOo.c3 ((Below.refl _ wr).alloc (Nat.le_refl _) o)
          have p3 : ∀ o, (wr.alloc o).frozen? ⟨w.heap.size + 1 + 1 + 1, 3, none⟩ = false := fun o => by (rw [((Below.refl wr.heap.size wr).alloc (Nat.le_refl _) o).frozen (p := ⟨w.heap.size + 1 + 1 + 1, 3, none⟩) (by show w.heap.size + 1 + 1 + 1 < _; omega)]; exact HOo.f3)
          have o4 : ∀ o, (wr.alloc o).cell? ⟨w.heap.size + 1 + 1 + 1, 4, none⟩ = some (.int .u32 (dig (n % 65536 ^ 2 * m) 3 : Nat)) := fun o => ckeep HOo.c4 ((Below.refl _ wr).alloc (Nat.le_refl _) o)
          have p4 : ∀ o, (wr.alloc o).frozen? ⟨w.heap.size + 1 + 1 + 1, 4, none⟩ = false := fun o => by (rw [((Below.refl wr.heap.size wr).alloc (Nat.le_refl _) o).frozen (p := ⟨w.heap.size + 1 + 1 + 1, 4, none⟩) (by show w.heap.size + 1 + 1 + 1 < _; omega)]; exact HOo.f4)
          have o5 : ∀ o, (wr.alloc o).cell? ⟨w.heap.size + 1 + 1 + 1, 5, none⟩ = some (.int .u32 (dig (n % 65536 ^ 2 * m) 4 : Nat)) := fun o => ckeep HOo.c5 ((Below.refl _ wr).alloc (Nat.le_refl _) o)
          have p5 : ∀ o, (wr.alloc o).frozen? ⟨w.heap.size + 1 + 1 + 1, 5, none⟩ = false := fun o => by (rw [((Below.refl wr.heap.size wr).alloc (Nat.le_refl _) o).frozen (p := ⟨w.heap.size + 1 + 1 + 1, 5, none⟩) (by show w.heap.size + 1 + 1 + 1 < _; omega)]; exact HOo.f5)
          have o6 : ∀ o, (wr.alloc o).cell? ⟨w.heap.size + 1 + 1 + 1, 6, none⟩ = some (.int .u32 (dig (n % 65536 ^ 2 * m) 5 : Nat)) := fun o => ckeep HOo.c6 ((Below.refl _ wr).alloc (Nat.le_refl _) o)
          have p6 : ∀ o, (wr.alloc o).frozen? ⟨w.heap.size + 1 + 1 + 1, 6, none⟩ = false := fun o => by (rw [((Below.refl wr.heap.size wr).alloc (Nat.le_refl _) o).frozen (p := ⟨w.heap.size + 1 + 1 + 1, 6, none⟩) (by show w.heap.size + 1 + 1 + 1 < _; omega)]; exact HOo.f6)
          have o7 : ∀ o, (wr.alloc o).cell? ⟨w.heap.size + 1 + 1 + 1, 7, none⟩ = some (.int .u32 (dig (n % 65536 ^ 2 * m) 6 : Nat)) := fun o => ckeep HOo.c7 ((Below.refl _ wr).alloc (Nat.le_refl _) o)
          have p7 : ∀ o, (wr.alloc o).frozen? ⟨w.heap.size + 1 + 1 + 1, 7, none⟩ = false := fun o => by (rw [((Below.refl wr.heap.size wr).alloc (Nat.le_refl _) o).frozen (p := ⟨w.heap.size + 1 + 1 + 1, 7, none⟩) (by show w.heap.size + 1 + 1 + 1 < _; omega)]; exact HOo.f7)
          have o8 : ∀ o, (wr.alloc o).cell? ⟨w.heap.size + 1 + 1 + 1, 8, none⟩ = some (.int .u32 (dig (n % 65536 ^ 2 * m) 7 : Nat)) := fun o => ckeep HOo.c8 ((Below.refl _ wr).alloc (Nat.le_refl _) o)
          have p8 : ∀ o, (wr.alloc o).frozen? ⟨w.heap.size + 1 + 1 + 1, 8, none⟩ = false := fun o => by (rw [((Below.refl wr.heap.size wr).alloc (Nat.le_refl _) o).frozen (p := ⟨w.heap.size + 1 + 1 + 1, 8, none⟩) (by show w.heap.size + 1 + 1 + 1 < _; omega)]; exact HOo.f8)
          have o9 : ∀ o, (wr.alloc o).cell? ⟨w.heap.size + 1 + 1 + 1, 9, none⟩ = some (.int .u32 (dig (n % 65536 ^ 2 * m) 8 : Nat)) := fun o => ckeep HOo.c9 ((Below.refl _ wr).alloc (Nat.le_refl _) o)
          have p9 : ∀ o, (wr.alloc o).frozen? ⟨w.heap.size + 1 + 1 + 1, 9, none⟩ = false := fun o => by (rw [((Below.refl wr.heap.size wr).alloc (Nat.le_refl _) o).frozen (p := ⟨w.heap.size + 1 + 1 + 1, 9, none⟩) (by show w.heap.size + 1 + 1 + 1 < _; omega)]; exact HOo.f9)
          clear HOo aA bB0 bB1 bB2 bB3 bB4
          go_wp2_with fail
          go_at_call 42
          with_reducible refine (M2.out _).mono ?_
          rintro e w5 ⟨rfl, hb5⟩
          have lt5 : w.heap.size + 1 + 1 + 1 < ((wr.alloc (.cells #[.int .u32 0, .int .u32 0, .int .u32 (dig (dig n 2 * m) 0 : Nat), .int .u32 (dig (dig n 2 * m) 1 : Nat), .int .u32 (dig (dig n 2 * m) 2 : Nat), .int .u32 (dig (dig n 2 * m) 3 : Nat), .int .u32 (dig (dig n 2 * m) 4 : Nat), .int .u32 0, .int .u32 0] 41)).drewN q).heap.size := by (show w.heap.size + 1 + 1 + 1 < (wr.alloc _).heap.size; simp; omega)
          have g0 : w5.cell? ⟨w.heap.size + 1 + 1 + 1, 0, none⟩ = some (.bool u) := by (rw [hb5.cell (p := ⟨w.heap.size + 1 + 1 + 1, 0, none⟩) lt5]; exact o0 _)
          have f0 : w5.frozen? ⟨w.heap.size + 1 + 1 + 1, 0, none⟩ = false := by (rw [hb5.frozen (p := ⟨w.heap.size + 1 + 1 + 1, 0, none⟩) lt5]; exact p0 _)
          have g1 : w5.cell? ⟨w.heap.size + 1 + 1 + 1, 1, none⟩ = some (.int .u32 (dig (n % 65536 ^ 2 * m) 0 : Nat)) := by (rw [hb5.cell (p := ⟨w.heap.size + 1 + 1 + 1, 1, none⟩) lt5]; exact o1 _)
          have f1 : w5.frozen? ⟨w.heap.size + 1 + 1 + 1, 1, none⟩ = false := by (rw [hb5.frozen (p := ⟨w.heap.size + 1 + 1 + 1, 1, none⟩) lt5]; exact p1 _)
          have g2 : w5.cell? ⟨w.heap.size + 1 + 1 + 1, 2, none⟩ = some (.int .u32 (dig (n % 65536 ^ 2 * m) 1 : Nat)) := by (rw [hb5.cell (p := ⟨w.heap.size + 1 + 1 + 1, 2, none⟩) lt5]; exact o2 _)
          have f2 : w5.frozen? ⟨w.heap.size + 1 + 1 + 1, 2, none⟩ = false := by (rw [hb5.frozen (p := ⟨w.heap.size + 1 + 1 + 1, 2, none⟩) lt5]; exact p2 _)
          have g3 : w5.cell? ⟨w.heap.size + 1 + 1 + 1, 3, none⟩ = some (.int .u32 (dig (n % 65536 ^ 2 * m) 2 : Nat)) := by (rw [hb5.cell (p := ⟨w.heap.size + 1 + 1 + 1, 3, none⟩) lt5]; exact o3 _)
          have f3 : w5.frozen? ⟨w.heap.size + 1 + 1 + 1, 3, none⟩ = false := by (rw [hb5.frozen (p := ⟨w.heap.size + 1 + 1 + 1, 3, none⟩) lt5]; exact p3 _)
          have g4 : w5.cell? ⟨w.heap.size + 1 + 1 + 1, 4, none⟩ = some (.int .u32 (dig (n % 65536 ^ 2 * m) 3 : Nat)) := by (rw [hb5.cell (p := ⟨w.heap.size + 1 + 1 + 1, 4, none⟩) lt5]; exact o4 _)
          have f4 : w5.frozen? ⟨w.heap.size + 1 + 1 + 1, 4, none⟩ = false := by (rw [hb5.frozen (p := ⟨w.heap.size + 1 + 1 + 1, 4, none⟩) lt5]; exact p4 _)
          have g5 : w5.cell? ⟨w.heap.size + 1 + 1 + 1, 5, none⟩ = some (.int .u32 (dig (n % 65536 ^ 2 * m) 4 : Nat)) := by (rw [hb5.cell (p := ⟨w.heap.size + 1 + 1 + 1, 5, none⟩) lt5]; exact o5 _)
          have f5 : w5.frozen? ⟨w.heap.size + 1 + 1 + 1, 5, none⟩ = false := by (rw [hb5.frozen (p := ⟨w.heap.size + 1 + 1 + 1, 5, none⟩) lt5]; exact p5 _)
          have g6 : w5.cell? ⟨w.heap.size + 1 + 1 + 1, 6, none⟩ = some (.int .u32 (dig (n % 65536 ^ 2 * m) 5 : Nat)) := by (rw [hb5.cell (p := ⟨w.heap.size + 1 + 1 + 1, 6, none⟩) lt5]; exact o6 _)
          have f6 : w5.frozen? ⟨w.heap.size + 1 + 1 + 1, 6, none⟩ = false := by (rw [hb5.frozen (p := ⟨w.heap.size + 1 + 1 + 1, 6, none⟩) lt5]; exact p6 _)
          have g7 : w5.cell? ⟨w.heap.size + 1 + 1 + 1, 7, none⟩ = some (.int .u32 (dig (n % 65536 ^ 2 * m) 6 : Nat)) := by (rw [hb5.cell (p := ⟨w.heap.size + 1 + 1 + 1, 7, none⟩) lt5]; exact o7 _)
          have f7 : w5.frozen? ⟨w.heap.size + 1 + 1 + 1, 7, none⟩ = false := by (rw [hb5.frozen (p := ⟨w.heap.size + 1 + 1 + 1, 7, none⟩) lt5]; exact p7 _)
          have g8 : w5.cell? ⟨w.heap.size + 1 + 1 + 1, 8, none⟩ = some (.int .u32 (dig (n % 65536 ^ 2 * m) 7 : Nat)) := by (rw [hb5.cell (p := ⟨w.heap.size + 1 + 1 + 1, 8, none⟩) lt5]; exact o8 _)
          have f8 : w5.frozen? ⟨w.heap.size + 1 + 1 + 1, 8, none⟩ = false := by (rw [hb5.frozen (p := ⟨w.heap.size + 1 + 1 + 1, 8, none⟩) lt5]; exact p8 _)
          have g9 : w5.cell? ⟨w.heap.size + 1 + 1 + 1, 9, none⟩ = some (.int .u32 (dig (n % 65536 ^ 2 * m) 8 : Nat)) := by (rw [hb5.cell (p := ⟨w.heap.size + 1 + 1 + 1, 9, none⟩) lt5]; exact o9 _)
          have f9 : w5.frozen? ⟨w.heap.size + 1 + 1 + 1, 9, none⟩ = false := by (rw [hb5.frozen (p := ⟨w.heap.size + 1 + 1 + 1, 9, none⟩) lt5]; exact p9 _)
          have z3 : Below (w.heap.size + 1 + 1 + 1) ((((w.alloc (.cells #[.bool s, .int .u32 (dig n 0 : Nat), .int .u32 (dig n 1 : Nat), .int .u32 (dig n 2 : Nat), .int .u32 (dig n 3 : Nat), .int .u32 (dig n 4 : Nat), .int .u32 (dig n 5 : Nat), .int .u32 (dig n 6 : Nat), .int .u32 (dig n 7 : Nat), .int .u32 (dig n 8 : Nat)] 43)).alloc (.cells #[.bool t, .int .u32 (dig m 0 : Nat), .int .u32 (dig m 1 : Nat), .int .u32 (dig m 2 : Nat), .int .u32 (dig m 3 : Nat), .int .u32 (dig m 4 : Nat), .int .u32 (dig m 5 : Nat), .int .u32 (dig m 6 : Nat), .int .u32 (dig m 7 : Nat), .int .u32 (dig m 8 : Nat)] 43)).alloc (.cells #[.bool false, .int .u32 0, .int .u32 0, .int .u32 0, .int .u32 0, .int .u32 0, .int .u32 0, .int .u32 0, .int .u32 0, .int .u32 0] 43)).alloc (.cells #[.bool u, .int .u32 0, .int .u32 0, .int .u32 0, .int .u32 0, .int .u32 0, .int .u32 0, .int .u32 0, .int .u32 0, .int .u32 0] 43)) w5 := Below.trans (below_drewN' (HB.out.alloc (by omega) _) q) (hb5.mono (Nat.le_of_lt lt5))
          have H5 := Lib.hid z3
          have S5 : w.heap.size + 1 + 1 + 1 + 1 ≤ w5.heap.size := Nat.le_trans lt5 hb5.size
          have S5 := Lib.hid S5
          clear z3 hb5 lt5 hs o0 p0 o1 p1 o2 p2 o3 p3 o4 p4 o5 p5 o6 p6 o7 p7 o8 p8 o9 p9
          go_wp2
          obtain ⟨wf, hwf, r0, r1, r2, r3, r4, r5, r6, r7, r8, r9, q0, q1, q2, q3, q4, q5, q6, q7, q8, q9, bf⟩ : ∃ wf, (((((((((w5.setCell ⟨w.heap.size + 1 + 1 + 1, 1, none⟩ (.int .u32 (dig (n % 65536 ^ 3 * m) 0 : Nat))).setCell ⟨w.heap.size + 1 + 1 + 1, 2, none⟩ (.int .u32 (dig (n % 65536 ^ 3 * m) 1 : Nat))).setCell ⟨w.heap.size + 1 + 1 + 1, 3, none⟩ (.int .u32 (dig (n % 65536 ^ 3 * m) 2 : Nat))).setCell ⟨w.heap.size + 1 + 1 + 1, 4, none⟩ (.int .u32 (dig (n % 65536 ^ 3 * m) 3 : Nat))).setCell ⟨w.heap.size + 1 + 1 + 1, 5, none⟩ (.int .u32 (dig (n % 65536 ^ 3 * m) 4 : Nat))).setCell ⟨w.heap.size + 1 + 1 + 1, 6, none⟩ (.int .u32 (dig (n % 65536 ^ 3 * m) 5 : Nat))).setCell ⟨w.heap.size + 1 + 1 + 1, 7, none⟩ (.int .u32 (dig (n % 65536 ^ 3 * m) 6 : Nat))).setCell ⟨w.heap.size + 1 + 1 + 1, 8, none⟩ (.int .u32 (dig (n % 65536 ^ 3 * m) 7 : Nat))).setCell ⟨w.heap.size + 1 + 1 + 1, 9, none⟩ (.int .u32 (dig (n % 65536 ^ 3 * m) 8 : Nat))) = wf ∧ wf.cell? ⟨w.heap.size + 1 + 1 + 1, 0, none⟩ = some (.bool u) ∧ wf.cell? ⟨w.heap.size + 1 + 1 + 1, 1, none⟩ = some (.int .u32 (dig (n % 65536 ^ 3 * m) 0 : Nat)) ∧ wf.cell? ⟨w.heap.size + 1 + 1 + 1, 2, none⟩ = some (.int .u32 (dig (n % 65536 ^ 3 * m) 1 : Nat)) ∧ wf.cell? ⟨w.heap.size + 1 + 1 + 1, 3, none⟩ = some (.int .u32 (dig (n % 65536 ^ 3 * m) 2 : Nat)) ∧ wf.cell? ⟨w.heap.size + 1 + 1 + 1, 4, none⟩ = some (.int .u32 (dig (n % 65536 ^ 3 * m) 3 : Nat)) ∧ wf.cell? ⟨w.heap.size + 1 + 1 + 1, 5, none⟩ = some (.int .u32 (dig (n % 65536 ^ 3 * m) 4 : Nat)) ∧ wf.cell? ⟨w.heap.size + 1 + 1 + 1, 6, none⟩ = some (.int .u32 (dig (n % 65536 ^ 3 * m) 5 : Nat)) ∧ wf.cell? ⟨w.heap.size + 1 + 1 + 1, 7, none⟩ = some (.int .u32 (dig (n % 65536 ^ 3 * m) 6 : Nat)) ∧ wf.cell? ⟨w.heap.size + 1 + 1 + 1, 8, none⟩ = some (.int .u32 (dig (n % 65536 ^ 3 * m) 7 : Nat)) ∧ wf.cell? ⟨w.heap.size + 1 + 1 + 1, 9, none⟩ = some (.int .u32 (dig (n % 65536 ^ 3 * m) 8 : Nat)) ∧ wf.frozen? ⟨w.heap.size + 1 + 1 + 1, 0, none⟩ = false ∧ wf.frozen? ⟨w.heap.size + 1 + 1 + 1, 1, none⟩ = false ∧ wf.frozen? ⟨w.heap.size + 1 + 1 + 1, 2, none⟩ = false ∧ wf.frozen? ⟨w.heap.size + 1 + 1 + 1, 3, none⟩ = false ∧ wf.frozen? ⟨w.heap.size + 1 + 1 + 1, 4, none⟩ = false ∧ wf.frozen? ⟨w.heap.size + 1 + 1 + 1, 5, none⟩ = false ∧ wf.frozen? ⟨w.heap.size + 1 + 1 + 1, 6, none⟩ = false ∧ wf.frozen? ⟨w.heap.size + 1 + 1 + 1, 7, none⟩ = false ∧ wf.frozen? ⟨w.heap.size + 1 + 1 + 1, 8, none⟩ = false ∧ wf.frozen? ⟨w.heap.size + 1 + 1 + 1, 9, none⟩ = false ∧ Hid (Below (w.heap.size + 1 + 1 + 1) w5 wf) := by
            refine ⟨_, rfl, ?_, ?_, ?_, ?_, ?_, ?_, ?_, ?_, ?_, ?_, ?_, ?_, ?_, ?_, ?_, ?_, ?_, ?_, ?_, ?_, Lib.hid (by (iterate 9 (refine Below.setCell (p := ⟨w.heap.size + 1 + 1 + 1, _, none⟩) ?_ (Nat.le_refl (w.heap.size + 1 + 1 + 1)) _)); exact Below.refl _ _)⟩ <;> go_simp
          rw [hwf]
          clear hwf g0 f0 g1 f1 g2 f2 g3 f3 g4 f4 g5 f5 g6 f6 g7 f7 g8 f8 g9 f9
          have OO := Lib.hid (show Out (w.heap.size + 1 + 1 + 1) u (n % 65536 ^ 3 * m) wf from ⟨r0, r1, r2, r3, r4, r5, r6, r7, r8, r9, q0, q1, q2, q3, q4, q5, q6, q7, q8, q9⟩)
          clear r0 q0 r1 q1 r2 q2 r3 q3 r4 q4 r5 q5 r6 q6 r7 q7 r8 q8 r9 q9
          all_goals go_roundw
          case rel => exact .inr (.inr (.inr (.inl ⟨rfl, OO, Lib.hid (Below.trans H5.out bf.out), Lib.hid (Nat.le_trans S5.out bf.out.size)⟩)))
          case measure => simp [intOf]
    · have hb := HB.out
      have hs := HS.out
      have a3 : wr.cell? ⟨w.heap.size, 4, none⟩ = some (.int .u32 (dig n 3 : Nat)) := by (rw [hb.cell (p := ⟨w.heap.size, 4, none⟩) (by show w.heap.size < _; omega)]; go_simp)
      have b0 : wr.cell? ⟨w.heap.size + 1, 1, none⟩ = some (.int .u32 (dig m 0 : Nat)) := by (rw [hb.cell (p := ⟨w.heap.size + 1, 1, none⟩) (by show w.heap.size + 1 < _; omega)]; go_simp)
      have b1 : wr.cell? ⟨w.heap.size + 1, 2, none⟩ = some (.int .u32 (dig m 1 : Nat)) := by (rw [hb.cell (p := ⟨w.heap.size + 1, 2, none⟩) (by show w.heap.size + 1 < _; omega)]; go_simp)
      have b2 : wr.cell? ⟨w.heap.size + 1, 3, none⟩ = some (.int .u32 (dig m 2 : Nat)) := by (rw [hb.cell (p := ⟨w.heap.size + 1, 3, none⟩) (by show w.heap.size + 1 < _; omega)]; go_simp)
      have b3 : wr.cell? ⟨w.heap.size + 1, 4, none⟩ = some (.int .u32 (dig m 3 : Nat)) := by (rw [hb.cell (p := ⟨w.heap.size + 1, 4, none⟩) (by show w.heap.size + 1 < _; omega)]; go_simp)
      have b4 : wr.cell? ⟨w.heap.size + 1, 5, none⟩ = some (.int .u32 (dig m 4 : Nat)) := by (rw [hb.cell (p := ⟨w.heap.size + 1, 5, none⟩) (by show w.heap.size + 1 < _; omega)]; go_simp)
      have A := Lib.hid (fun o => (ckeep a3 ((Below.refl _ wr).alloc (Nat.le_refl _) o)))
      have aA : ∀ o, (wr.alloc o).cell? ⟨w.heap.size, 4, none⟩ = some (.int .u32 (dig n 3 : Nat)) := fun o => ckeep a3 ((Below.refl _ wr).alloc (Nat.le_refl _) o)
      have bB0 : ∀ o, (wr.alloc o).cell? ⟨w.heap.size + 1, 1, none⟩ = some (.int .u32 (dig m 0 : Nat)) := fun o => ckeep b0 ((Below.refl _ wr).alloc (Nat.le_refl _) o)
      have bB1 : ∀ o, (wr.alloc o).cell? ⟨w.heap.size + 1, 2, none⟩ = some (.int .u32 (dig m 1 : Nat)) := fun o => ckeep b1 ((Below.refl _ wr).alloc (Nat.le_refl _) o)
      have bB2 : ∀ o, (wr.alloc o).cell? ⟨w.heap.size + 1, 3, none⟩ = some (.int .u32 (dig m 2 : Nat)) := fun o => ckeep b2 ((Below.refl _ wr).alloc (Nat.le_refl _) o)
      have bB3 : ∀ o, (wr.alloc o).cell? ⟨w.heap.size + 1, 4, none⟩ = some (.int .u32 (dig m 3 : Nat)) := fun o => ckeep b3 ((Below.refl _ wr).alloc (Nat.le_refl _) o)
      have bB4 : ∀ o, (wr.alloc o).cell? ⟨w.heap.size + 1, 5, none⟩ = some (.int .u32 (dig m 4 : Nat)) := fun o => ckeep b4 ((Below.refl _ wr).alloc (Nat.le_refl _) o)
      clear hb hs a3 A b0 b1 b2 b3 b4
      have da := Long.dig_lt n 3
      go_wp2
      go_loopw [8, 9] (fun c kk wi => ∃ q : Nat, (kk = .int .i64 0 ∧ c = .int .u32 (Long.mcar (dig n 3) m 0 : Nat) ∧ wi = (wr.alloc (.cells #[.int .u32 0, .int .u32 0, .int .u32 0, .int .u32 0, .int .u32 0, .int .u32 0, .int .u32 0, .int .u32 0, .int .u32 0] 41)).drewN q) ∨ (kk = .int .i64 1 ∧ c = .int .u32 (Long.mcar (dig n 3) m 1 : Nat) ∧ wi = (wr.alloc (.cells #[.int .u32 0, .int .u32 0, .int .u32 0, .int .u32 (dig (dig n 3 * m) 0 : Nat), .int .u32 0, .int .u32 0, .int .u32 0, .int .u32 0, .int .u32 0] 41)).drewN q) ∨ (kk = .int .i64 2 ∧ c = .int .u32 (Long.mcar (dig n 3) m 2 : Nat) ∧ wi = (wr.alloc (.cells #[.int .u32 0, .int .u32 0, .int .u32 0, .int .u32 (dig (dig n 3 * m) 0 : Nat), .int .u32 (dig (dig n 3 * m) 1 : Nat), .int .u32 0, .int .u32 0, .int .u32 0, .int .u32 0] 41)).drewN q) ∨ (kk = .int .i64 3 ∧ c = .int .u32 (Long.mcar (dig n 3) m 3 : Nat) ∧ wi = (wr.alloc (.cells #[.int .u32 0, .int .u32 0, .int .u32 0, .int .u32 (dig (dig n 3 * m) 0 : Nat), .int .u32 (dig (dig n 3 * m) 1 : Nat), .int .u32 (dig (dig n 3 * m) 2 : Nat), .int .u32 0, .int .u32 0, .int .u32 0] 41)).drewN q) ∨ (kk = .int .i64 4 ∧ c = .int .u32 (Long.mcar (dig n 3) m 4 : Nat) ∧ wi = (wr.alloc (.cells #[.int .u32 0, .int .u32 0, .int .u32 0, .int .u32 (dig (dig n 3 * m) 0 : Nat), .int .u32 (dig (dig n 3 * m) 1 : Nat), .int .u32 (dig (dig n 3 * m) 2 : Nat), .int .u32 (dig (dig n 3 * m) 3 : Nat), .int .u32 0, .int .u32 0] 41)).drewN q) ∨ (kk = .int .i64 5 ∧ c = .int .u32 (Long.mcar (dig n 3) m 5 : Nat) ∧ wi = (wr.alloc (.cells #[.int .u32 0, .int .u32 0, .int .u32 0, .int .u32 (dig (dig n 3 * m) 0 : Nat), .int .u32 (dig (dig n 3 * m) 1 : Nat), .int .u32 (dig (dig n 3 * m) 2 : Nat), .int .u32 (dig (dig n 3 * m) 3 : Nat), .int .u32 (dig (dig n 3 * m) 4 : Nat), .int .u32 0] 41)).drewN q)) (fun _ kk _ => (6 - intOf kk).toNat)
      case atStart => exact ⟨0, .inl ⟨rfl, by rw [Long.mcar_zero]; rfl, rfl⟩⟩
      case round =>
        obtain ⟨q, hrel⟩ := hrel
        rcases hrel with ⟨rfl, rfl, rfl⟩ | ⟨rfl, rfl, rfl⟩ | ⟨rfl, rfl, rfl⟩ | ⟨rfl, rfl, rfl⟩ | ⟨rfl, rfl, rfl⟩ | ⟨rfl, rfl, rfl⟩
        · have dm := Long.dig_lt m 0
          have c1 := LE.out 3 0
          have st : dig n 3 * dig m 0 + Long.mcar (dig n 3) m 0 = dig (dig n 3 * m) 0 + 65536 * Long.mcar (dig n 3) m 1 := ST.out 3 0
          have dp := Long.dig_lt (dig n 3 * m) 0
          have pm : dig n 3 * dig m 0 ≤ 65535 * 65535 := Nat.mul_le_mul (by omega) (by omega)
          obtain ⟨pr, hpr⟩ : ∃ pr : Nat, dig n 3 * dig m 0 = pr := ⟨_, rfl⟩
          have hpi : ((dig n 3 : Nat) : Int) * ((dig m 0 : Nat) : Int) = (pr : Int) := by rw [← Int.natCast_mul, hpr]
          rw [hpr] at st pm
          have E1 : (((pr : Nat) : Int) + ((Long.mcar (dig n 3) m 0 : Nat) : Int)) % 65536 = ((dig (dig n 3 * m) 0 : Nat) : Int) := by omega
          have E2 : (((pr : Nat) : Int) + ((Long.mcar (dig n 3) m 0 : Nat) : Int)) / 65536 = ((Long.mcar (dig n 3) m 1 : Nat) : Int) := by omega
          clear st dp hpr dm
          go_wp2
          go_region
          go_wp2
          all_goals go_roundw
          case rel => exact ⟨_, .inr (.inl ⟨rfl, by rw [E2], by first | rfl | rw [E1]⟩)⟩
          case measure => simp [intOf]
        · have dm := Long.dig_lt m 1
          have c1 := LE.out 3 1
          have st : dig n 3 * dig m 1 + Long.mcar (dig n 3) m 1 = dig (dig n 3 * m) 1 + 65536 * Long.mcar (dig n 3) m 2 := ST.out 3 1
          have dp := Long.dig_lt (dig n 3 * m) 1
          have pm : dig n 3 * dig m 1 ≤ 65535 * 65535 := Nat.mul_le_mul (by omega) (by omega)
          obtain ⟨pr, hpr⟩ : ∃ pr : Nat, dig n 3 * dig m 1 = pr := ⟨_, rfl⟩
          have hpi : ((dig n 3 : Nat) : Int) * ((dig m 1 : Nat) : Int) = (pr : Int) := by rw [← Int.natCast_mul, hpr]
          rw [hpr] at st pm
          have E1 : (((pr : Nat) : Int) + ((Long.mcar (dig n 3) m 1 : Nat) : Int)) % 65536 = ((dig (dig n 3 * m) 1 : Nat) : Int) := by omega
          have E2 : (((pr : Nat) : Int) + ((Long.mcar (dig n 3) m 1 : Nat) : Int)) / 65536 = ((Long.mcar (dig n 3) m 2 : Nat) : Int) := by omega
          clear st dp hpr dm
          go_wp2
          go_region
          go_wp2
          all_goals go_roundw
          case rel => exact ⟨_, .inr (.inr (.inl ⟨rfl, by rw [E2], by first | rfl | rw [E1]⟩))⟩
          case measure => simp [intOf]
        · have dm := Long.dig_lt m 2
          have c1 := LE.out 3 2
          have st : dig n 3 * dig m 2 + Long.mcar (dig n 3) m 2 = dig (dig n 3 * m) 2 + 65536 * Long.mcar (dig n 3) m 3 := ST.out 3 2
          have dp := Long.dig_lt (dig n 3 * m) 2
          have pm : dig n 3 * dig m 2 ≤ 65535 * 65535 := Nat.mul_le_mul (by omega) (by omega)
          obtain ⟨pr, hpr⟩ : ∃ pr : Nat, dig n 3 * dig m 2 = pr := ⟨_, rfl⟩
          have hpi : ((dig n 3 : Nat) : Int) * ((dig m 2 : Nat) : Int) = (pr : Int) := by rw [← Int.natCast_mul, hpr]
          rw [hpr] at st pm
          have E1 : (((pr : Nat) : Int) + ((Long.mcar (dig n 3) m 2 : Nat) : Int)) % 65536 = ((dig (dig n 3 * m) 2 : Nat) : Int) := by omega
          have E2 : (((pr : Nat) : Int) + ((Long.mcar (dig n 3) m 2 : Nat) : Int)) / 65536 = ((Long.mcar (dig n 3) m 3 : Nat) : Int) := by omega
          clear st dp hpr dm
          go_wp2
          go_region
          go_wp2
          all_goals go_roundw
          case rel => exact ⟨_, .inr (.inr (.inr (.inl ⟨rfl, by rw [E2], by first | rfl | rw [E1]⟩)))⟩
          case measure => simp [intOf]
        · have dm := Long.dig_lt m 3
          have c1 := LE.out 3 3
          have st : dig n 3 * dig m 3 + Long.mcar (dig n 3) m 3 = dig (dig n 3 * m) 3 + 65536 * Long.mcar (dig n 3) m 4 := ST.out 3 3
          have dp := Long.dig_lt (dig n 3 * m) 3
          have pm : dig n 3 * dig m 3 ≤ 65535 * 65535 := Nat.mul_le_mul (by omega) (by omega)
          obtain ⟨pr, hpr⟩ : ∃ pr : Nat, dig n 3 * dig m 3 = pr := ⟨_, rfl⟩
          have hpi : ((dig n 3 : Nat) : Int) * ((dig m 3 : Nat) : Int) = (pr : Int) := by rw [← Int.natCast_mul, hpr]
          rw [hpr] at st pm
          have E1 : (((pr : Nat) : Int) + ((Long.mcar (dig n 3) m 3 : Nat) : Int)) % 65536 = ((dig (dig n 3 * m) 3 : Nat) : Int) := by omega
          have E2 : (((pr : Nat) : Int) + ((Long.mcar (dig n 3) m 3 : Nat) : Int)) / 65536 = ((Long.mcar (dig n 3) m 4 : Nat) : Int) := by omega
          clear st dp hpr dm
          go_wp2
          go_region
          go_wp2
          all_goals go_roundw
          case rel => exact ⟨_, .inr (.inr (.inr (.inr (.inl ⟨rfl, by rw [E2], by first | rfl | rw [E1]⟩))))⟩
          case measure => simp [intOf]
        · have dm := Long.dig_lt m 4
          have c1 := LE.out 3 4
          have st : dig n 3 * dig m 4 + Long.mcar (dig n 3) m 4 = dig (dig n 3 * m) 4 + 65536 * Long.mcar (dig n 3) m 5 := ST.out 3 4
          have dp := Long.dig_lt (dig n 3 * m) 4
          have pm : dig n 3 * dig m 4 ≤ 65535 * 65535 := Nat.mul_le_mul (by omega) (by omega)
          obtain ⟨pr, hpr⟩ : ∃ pr : Nat, dig n 3 * dig m 4 = pr := ⟨_, rfl⟩
          have hpi : ((dig n 3 : Nat) : Int) * ((dig m 4 : Nat) : Int) = (pr : Int) := by rw [← Int.natCast_mul, hpr]
          rw [hpr] at st pm
          have E1 : (((pr : Nat) : Int) + ((Long.mcar (dig n 3) m 4 : Nat) : Int)) % 65536 = ((dig (dig n 3 * m) 4 : Nat) : Int) := by omega
          have E2 : (((pr : Nat) : Int) + ((Long.mcar (dig n 3) m 4 : Nat) : Int)) / 65536 = ((Long.mcar (dig n 3) m 5 : Nat) : Int) := by omega
          clear st dp hpr dm
          go_wp2
          go_region
          go_wp2
          all_goals go_roundw
          case rel => exact ⟨_, .inr (.inr (.inr (.inr (.inr (⟨rfl, by rw [E2], by first | rfl | rw [E1]⟩)))))⟩
          case measure => simp [intOf]
        · have HOo := HO.out
          have hs := HS.out
          have o0 : ∀ o, (wr.alloc o).cell? ⟨w.heap.size + 1 + 1 + 1, 0, none⟩ = some (.bool u) := fun o => ckeep HOo.c0 ((Below.refl _ wr).alloc (Nat.le_refl _) o)
          have p0 : ∀ o, (wr.alloc o).frozen? ⟨w.heap.size + 1 + 1 + 1, 0, none⟩ = false := fun o => by (rw [((Below.refl wr.heap.size wr).alloc (Nat.le_refl _) o).frozen (p := ⟨w.heap.size + 1 + 1 + 1, 0, none⟩) (by show w.heap.size + 1 + 1 + 1 < _; omega)]; exact HOo.f0)
          have o1 : ∀ o, (wr.alloc o).cell? ⟨w.heap.size + 1 + 1 + 1, 1, none⟩ = some (.int .u32 (dig (n % 65536 ^ 3 * m) 0 : Nat)) := fun o => ckeep HOo.c1 ((Below.refl _ wr).alloc (Nat.le_refl _) o)
          have p1 : ∀ o, (wr.alloc o).frozen? ⟨w.heap.size + 1 + 1 + 1, 1, none⟩ = false := fun o => by (rw [((Below.refl wr.heap.size wr).alloc (Nat.le_refl _) o).frozen (p := ⟨w.heap.size + 1 + 1 + 1, 1, none⟩) (by show w.heap.size + 1 + 1 + 1 < _; omega)]; exact HOo.f1)
          have o2 : ∀ o, (wr.alloc o).cell? ⟨w.heap.size + 1 + 1 + 1, 2, none⟩ = some (.int .u32 (dig (n % 65536 ^ 3 * m) 1 : Nat)) := fun o => ckeep HOo.c2 ((Below.refl _ wr).alloc (Nat.le_refl _) o)
          have p2 : ∀ o, (wr.alloc o).frozen? ⟨w.heap.size + 1 + 1 + 1, 2, none⟩ = false := fun o => by (rw [((Below.refl wr.heap.size wr).alloc (Nat.le_refl _) o).frozen (p := ⟨w.heap.size + 1 + 1 + 1, 2, none⟩) (by show w.heap.size + 1 + 1 + 1 < _; omega)]; exact HOo.f2)
          have o3 : ∀ o, (wr.alloc o).cell? ⟨w.heap.size + 1 + 1 + 1, 3, none⟩ = some (.int .u32 (dig (n % 65536 ^ 3 * m) 2 : Nat)) := fun o => ckeep HOo.c3 ((Below.refl _ wr).alloc (Nat.le_refl _) o)
          have p3 : ∀ o, (wr.alloc o).frozen? ⟨w.heap.size + 1 + 1 + 1, 3, none⟩ = false := fun o => by (rw [((Below.refl wr.heap.size wr).alloc (Nat.le_refl _) o).frozen (p := ⟨w.heap.size + 1 + 1 + 1, 3, none⟩) (by show w.heap.size + 1 + 1 + 1 < _; omega)]; exact HOo.f3)
          have o4 : ∀ o, (wr.alloc o).cell? ⟨w.heap.size + 1 + 1 + 1, 4, none⟩ = some (.int .u32 (dig (n % 65536 ^ 3 * m) 3 : Nat)) := fun o => ckeep HOo.c4 ((Below.refl _ wr).alloc (Nat.le_refl _) o)
          have p4 : ∀ o, (wr.alloc o).frozen? ⟨w.heap.size + 1 + 1 + 1, 4, none⟩ = false := fun o => by (rw [((Below.refl wr.heap.size wr).alloc (Nat.le_refl _) o).frozen (p := ⟨w.heap.size + 1 + 1 + 1, 4, none⟩) (by show w.heap.size + 1 + 1 + 1 < _; omega)]; exact HOo.f4)
          have o5 : ∀ o, (wr.alloc o).cell? ⟨w.heap.size + 1 + 1 + 1, 5, none⟩ = some (.int .u32 (dig (n % 65536 ^ 3 * m) 4 : Nat)) := fun o => ckeep HOo.c5 ((Below.refl _ wr).alloc (Nat.le_refl _) o)
          have p5 : ∀ o, (wr.alloc o).frozen? ⟨w.heap.size + 1 + 1 + 1, 5, none⟩ = false := fun o => by (rw [((Below.refl wr.heap.size wr).alloc (Nat.le_refl _) o).frozen (p := ⟨w.heap.size + 1 + 1 + 1, 5, none⟩) (by show w.heap.size + 1 + 1 + 1 < _; omega)]; exact HOo.f5)
          have o6 : ∀ o, (wr.alloc o).cell? ⟨w.heap.size + 1 + 1 + 1, 6, none⟩ = some (.int .u32 (dig (n % 65536 ^ 3 * m) 5 : Nat)) := fun o => ckeep HOo.c6 ((Below.refl _ wr).alloc (Nat.le_refl _) o)
          have p6 : ∀ o, (wr.alloc o).frozen? ⟨w.heap.size + 1 + 1 + 1, 6, none⟩ = false := fun o => by (rw [((Below.refl wr.heap.size wr).alloc (Nat.le_refl _) o).frozen (p := ⟨w.heap.size + 1 + 1 + 1, 6, none⟩) (by show w.heap.size + 1 + 1 + 1 < _; omega)]; exact HOo.f6)
          have o7 : ∀ o, (wr.alloc o).cell? ⟨w.heap.size + 1 + 1 + 1, 7, none⟩ = some (.int .u32 (dig (n % 65536 ^ 3 * m) 6 : Nat)) := fun o => ckeep HOo.c7 ((Below.refl _ wr).alloc (Nat.le_refl _) o)
          have p7 : ∀ o, (wr.alloc o).frozen? ⟨w.heap.size + 1 + 1 + 1, 7, none⟩ = false := fun o => by (rw [((Below.refl wr.heap.size wr).alloc (Nat.le_refl _) o).frozen (p := ⟨w.heap.size + 1 + 1 + 1, 7, none⟩) (by show w.heap.size + 1 + 1 + 1 < _; omega)]; exact HOo.f7)
          have o8 : ∀ o, (wr.alloc o).cell? ⟨w.heap.size + 1 + 1 + 1, 8, none⟩ = some (.int .u32 (dig (n % 65536 ^ 3 * m) 7 : Nat)) := fun o => ckeep HOo.c8 ((Below.refl _ wr).alloc (Nat.le_refl _) o)
          have p8 : ∀ o, (wr.alloc o).frozen? ⟨w.heap.size + 1 + 1 + 1, 8, none⟩ = false := fun o => by (rw [((Below.refl wr.heap.size wr).alloc (Nat.le_refl _) o).frozen (p := ⟨w.heap.size + 1 + 1 + 1, 8, none⟩) (by show w.heap.size + 1 + 1 + 1 < _; omega)]; exact HOo.f8)
          have o9 : ∀ o, (wr.alloc o).cell? ⟨w.heap.size + 1 + 1 + 1, 9, none⟩ = some (.int .u32 (dig (n % 65536 ^ 3 * m) 8 : Nat)) := fun o => ckeep HOo.c9 ((Below.refl _ wr).alloc (Nat.le_refl _) o)
          have p9 : ∀ o, (wr.alloc o).frozen? ⟨w.heap.size + 1 + 1 + 1, 9, none⟩ = false := fun o => by (rw [((Below.refl wr.heap.size wr).alloc (Nat.le_refl _) o).frozen (p := ⟨w.heap.size + 1 + 1 + 1, 9, none⟩) (by show w.heap.size + 1 + 1 + 1 < _; omega)]; exact HOo.f9)
          clear HOo aA bB0 bB1 bB2 bB3 bB4
          go_wp2_with fail
          go_at_call 42
          with_reducible refine (M3.out _).mono ?_
          rintro e w5 ⟨rfl, hb5⟩
          have lt5 : w.heap.size + 1 + 1 + 1 < ((wr.alloc (.cells #[.int .u32 0, .int .u32 0, .int .u32 0, .int .u32 (dig (dig n 3 * m) 0 : Nat), .int .u32 (dig (dig n 3 * m) 1 : Nat), .int .u32 (dig (dig n 3 * m) 2 : Nat), .int .u32 (dig (dig n 3 * m) 3 : Nat), .int .u32 (dig (dig n 3 * m) 4 : Nat), .int .u32 0] 41)).drewN q).heap.size := by (show w.heap.size + 1 + 1 + 1 < (wr.alloc _).heap.size; simp; omega)
          have g0 : w5.cell? ⟨w.heap.size + 1 + 1 + 1, 0, none⟩ = some (.bool u) := by (rw [hb5.cell (p := ⟨w.heap.size + 1 + 1 + 1, 0, none⟩) lt5]; exact o0 _)
          have f0 : w5.frozen? ⟨w.heap.size + 1 + 1 + 1, 0, none⟩ = false := by (rw [hb5.frozen (p := ⟨w.heap.size + 1 + 1 + 1, 0, none⟩) lt5]; exact p0 _)
          have g1 : w5.cell? ⟨w.heap.size + 1 + 1 + 1, 1, none⟩ = some (.int .u32 (dig (n % 65536 ^ 3 * m) 0 : Nat)) := by (rw [hb5.cell (p := ⟨w.heap.size + 1 + 1 + 1, 1, none⟩) lt5]; exact o1 _)
          have f1 : w5.frozen? ⟨w.heap.size + 1 + 1 + 1, 1, none⟩ = false := by (rw [hb5.frozen (p := ⟨w.heap.size + 1 + 1 + 1, 1, none⟩) lt5]; exact p1 _)
          have g2 : w5.cell? ⟨w.heap.size + 1 + 1 + 1, 2, none⟩ = some (.int .u32 (dig (n % 65536 ^ 3 * m) 1 : Nat)) := by (rw [hb5.cell (p := ⟨w.heap.size + 1 + 1 + 1, 2, none⟩) lt5]; exact o2 _)
          have f2 : w5.frozen? ⟨w.heap.size + 1 + 1 + 1, 2, none⟩ = false := by (rw [hb5.frozen (p := ⟨w.heap.size + 1 + 1 + 1, 2, none⟩) lt5]; exact p2 _)
          have g3 : w5.cell? ⟨w.heap.size + 1 + 1 + 1, 3, none⟩ = some (.int .u32 (dig (n % 65536 ^ 3 * m) 2 : Nat)) := by (rw [hb5.cell (p := ⟨w.heap.size + 1 + 1 + 1, 3, none⟩) lt5]; exact o3 _)
          have f3 : w5.frozen? ⟨w.heap.size + 1 + 1 + 1, 3, none⟩ = false := by (rw [hb5.frozen (p := ⟨w.heap.size + 1 + 1 + 1, 3, none⟩) lt5]; exact p3 _)
          have g4 : w5.cell? ⟨w.heap.size + 1 + 1 + 1, 4, none⟩ = some (.int .u32 (dig (n % 65536 ^ 3 * m) 3 : Nat)) := by (rw [hb5.cell (p := ⟨w.heap.size + 1 + 1 + 1, 4, none⟩) lt5]; exact o4 _)
          have f4 : w5.frozen? ⟨w.heap.size + 1 + 1 + 1, 4, none⟩ = false := by (rw [hb5.frozen (p := ⟨w.heap.size + 1 + 1 + 1, 4, none⟩) lt5]; exact p4 _)
          have g5 : w5.cell? ⟨w.heap.size + 1 + 1 + 1, 5, none⟩ = some (.int .u32 (dig (n % 65536 ^ 3 * m) 4 : Nat)) := by (rw [hb5.cell (p := ⟨w.heap.size + 1 + 1 + 1, 5, none⟩) lt5]; exact o5 _)
          have f5 : w5.frozen? ⟨w.heap.size + 1 + 1 + 1, 5, none⟩ = false := by (rw [hb5.frozen (p := ⟨w.heap.size + 1 + 1 + 1, 5, none⟩) lt5]; exact p5 _)
          have g6 : w5.cell? ⟨w.heap.size + 1 + 1 + 1, 6, none⟩ = some (.int .u32 (dig (n % 65536 ^ 3 * m) 5 : Nat)) := by (rw [hb5.cell (p := ⟨w.heap.size + 1 + 1 + 1, 6, none⟩) lt5]; exact o6 _)
          have f6 : w5.frozen? ⟨w.heap.size + 1 + 1 + 1, 6, none⟩ = false := by (rw [hb5.frozen (p := ⟨w.heap.size + 1 + 1 + 1, 6, none⟩) lt5]; exact p6 _)
          have g7 : w5.cell? ⟨w.heap.size + 1 + 1 + 1, 7, none⟩ = some (.int .u32 (dig (n % 65536 ^ 3 * m) 6 : Nat)) := by (rw [hb5.cell (p := ⟨w.heap.size + 1 + 1 + 1, 7, none⟩) lt5]; exact o7 _)
          have f7 : w5.frozen? ⟨w.heap.size + 1 + 1 + 1, 7, none⟩ = false := by (rw [hb5.frozen (p := ⟨w.heap.size + 1 + 1 + 1, 7, none⟩) lt5]; exact p7 _)
          have g8 : w5.cell? ⟨w.heap.size + 1 + 1 + 1, 8, none⟩ = some (.int .u32 (dig (n % 65536 ^ 3 * m) 7 : Nat)) := by (rw [hb5.cell (p := ⟨w.heap.size + 1 + 1 + 1, 8, none⟩) lt5]; exact o8 _)
          have f8 : w5.frozen? ⟨w.heap.size + 1 + 1 + 1, 8, none⟩ = false := by (rw [hb5.frozen (p := ⟨w.heap.size + 1 + 1 + 1, 8, none⟩) lt5]; exact p8 _)
          have g9 : w5.cell? ⟨w.heap.size + 1 + 1 + 1, 9, none⟩ = some (.int .u32 (dig (n % 65536 ^ 3 * m) 8 : Nat)) := by (rw [hb5.cell (p := ⟨w.heap.size + 1 + 1 + 1, 9, none⟩) lt5]; exact o9 _)
          have f9 : w5.frozen? ⟨w.heap.size + 1 + 1 + 1, 9, none⟩ = false := by (rw [hb5.frozen (p := ⟨w.heap.size + 1 + 1 + 1, 9, none⟩) lt5]; exact p9 _)
          have z3 : Below (w.heap.size + 1 + 1 + 1) ((((w.alloc (.cells #[.bool s, .int .u32 (dig n 0 : Nat), .int .u32 (dig n 1 : Nat), .int .u32 (dig n 2 : Nat), .int .u32 (dig n 3 : Nat), .int .u32 (dig n 4 : Nat), .int .u32 (dig n 5 : Nat), .int .u32 (dig n 6 : Nat), .int .u32 (dig n 7 : Nat), .int .u32 (dig n 8 : Nat)] 43)).alloc (.cells #[.bool t, .int .u32 (dig m 0 : Nat), .int .u32 (dig m 1 : Nat), .int .u32 (dig m 2 : Nat), .int .u32 (dig m 3 : Nat), .int .u32 (dig m 4 : Nat), .int .u32 (dig m 5 : Nat), .int .u32 (dig m 6 : Nat), .int .u32 (dig m 7 : Nat), .int .u32 (dig m 8 : Nat)] 43)).alloc (.cells #[.bool false, .int .u32 0, .int .u32 0, .int .u32 0, .int .u32 0, .int .u32 0, .int .u32 0, .int .u32 0, .int .u32 0, .int .u32 0] 43)).alloc (.cells #[.bool u, .int .u32 0, .int .u32 0, .int .u32 0, .int .u32 0, .int .u32 0, .int .u32 0, .int .u32 0, .int .u32 0, .int .u32 0] 43)) w5 := Below.trans (below_drewN' (HB.out.alloc (by omega) _) q) (hb5.mono (Nat.le_of_lt lt5))
          have H5 := Lib.hid z3
          have S5 : w.heap.size + 1 + 1 + 1 + 1 ≤ w5.heap.size := Nat.le_trans lt5 hb5.size
          have S5 := Lib.hid S5
          clear z3 hb5 lt5 hs o0 p0 o1 p1 o2 p2 o3 p3 o4 p4 o5 p5 o6 p6 o7 p7 o8 p8 o9 p9
          go_wp2
          obtain ⟨wf, hwf, r0, r1, r2, r3, r4, r5, r6, r7, r8, r9, q0, q1, q2, q3, q4, q5, q6, q7, q8, q9, bf⟩ : ∃ wf, (((((((((w5.setCell ⟨w.heap.size + 1 + 1 + 1, 1, none⟩ (.int .u32 (dig (n % 65536 ^ 4 * m) 0 : Nat))).setCell ⟨w.heap.size + 1 + 1 + 1, 2, none⟩ (.int .u32 (dig (n % 65536 ^ 4 * m) 1 : Nat))).setCell ⟨w.heap.size + 1 + 1 + 1, 3, none⟩ (.int .u32 (dig (n % 65536 ^ 4 * m) 2 : Nat))).setCell ⟨w.heap.size + 1 + 1 + 1, 4, none⟩ (.int .u32 (dig (n % 65536 ^ 4 * m) 3 : Nat))).setCell ⟨w.heap.size + 1 + 1 + 1, 5, none⟩ (.int .u32 (dig (n % 65536 ^ 4 * m) 4 : Nat))).setCell ⟨w.heap.size + 1 + 1 + 1, 6, none⟩ (.int .u32 (dig (n % 65536 ^ 4 * m) 5 : Nat))).setCell ⟨w.heap.size + 1 + 1 + 1, 7, none⟩ (.int .u32 (dig (n % 65536 ^ 4 * m) 6 : Nat))).setCell ⟨w.heap.size + 1 + 1 + 1, 8, none⟩ (.int .u32 (dig (n % 65536 ^ 4 * m) 7 : Nat))).setCell ⟨w.heap.size + 1 + 1 + 1, 9, none⟩ (.int .u32 (dig (n % 65536 ^ 4 * m) 8 : Nat))) = wf ∧ wf.cell? ⟨w.heap.size + 1 + 1 + 1, 0, none⟩ = some (.bool u) ∧ wf.cell? ⟨w.heap.size + 1 + 1 + 1, 1, none⟩ = some (.int .u32 (dig (n % 65536 ^ 4 * m) 0 : Nat)) ∧ wf.cell? ⟨w.heap.size + 1 + 1 + 1, 2, none⟩ = some (.int .u32 (dig (n % 65536 ^ 4 * m) 1 : Nat)) ∧ wf.cell? ⟨w.heap.size + 1 + 1 + 1, 3, none⟩ = some (.int .u32 (dig (n % 65536 ^ 4 * m) 2 : Nat)) ∧ wf.cell? ⟨w.heap.size + 1 + 1 + 1, 4, none⟩ = some (.int .u32 (dig (n % 65536 ^ 4 * m) 3 : Nat)) ∧ wf.cell? ⟨w.heap.size + 1 + 1 + 1, 5, none⟩ = some (.int .u32 (dig (n % 65536 ^ 4 * m) 4 : Nat)) ∧ wf.cell? ⟨w.heap.size + 1 + 1 + 1, 6, none⟩ = some (.int .u32 (dig (n % 65536 ^ 4 * m) 5 : Nat)) ∧ wf.cell? ⟨w.heap.size + 1 + 1 + 1, 7, none⟩ = some (.int .u32 (dig (n % 65536 ^ 4 * m) 6 : Nat)) ∧ wf.cell? ⟨w.heap.size + 1 + 1 + 1, 8, none⟩ = some (.int .u32 (dig (n % 65536 ^ 4 * m) 7 : Nat)) ∧ wf.cell? ⟨w.heap.size + 1 + 1 + 1, 9, none⟩ = some (.int .u32 (dig (n % 65536 ^ 4 * m) 8 : Nat)) ∧ wf.frozen? ⟨w.heap.size + 1 + 1 + 1, 0, none⟩ = false ∧ wf.frozen? ⟨w.heap.size + 1 + 1 + 1, 1, none⟩ = false ∧ wf.frozen? ⟨w.heap.size + 1 + 1 + 1, 2, none⟩ = false ∧ wf.frozen? ⟨w.heap.size + 1 + 1 + 1, 3, none⟩ = false ∧ wf.frozen? ⟨w.heap.size + 1 + 1 + 1, 4, none⟩ = false ∧ wf.frozen? ⟨w.heap.size + 1 + 1 + 1, 5, none⟩ = false ∧ wf.frozen? ⟨w.heap.size + 1 + 1 + 1, 6, none⟩ = false ∧ wf.frozen? ⟨w.heap.size + 1 + 1 + 1, 7, none⟩ = false ∧ wf.frozen? ⟨w.heap.size + 1 + 1 + 1, 8, none⟩ = false ∧ wf.frozen? ⟨w.heap.size + 1 + 1 + 1, 9, none⟩ = false ∧ Hid (Below (w.heap.size + 1 + 1 + 1) w5 wf) := by
            refine ⟨_, rfl, ?_, ?_, ?_, ?_, ?_, ?_, ?_, ?_, ?_, ?_, ?_, ?_, ?_, ?_, ?_, ?_, ?_, ?_, ?_, ?_, Lib.hid (by (iterate 9 (refine Below.setCell (p := ⟨w.heap.size + 1 + 1 + 1, _, none⟩) ?_ (Nat.le_refl (w.heap.size + 1 + 1 + 1)) _)); exact Below.refl _ _)⟩ <;> go_simp
          rw [hwf]
          clear hwf g0 f0 g1 f1 g2 f2 g3 f3 g4 f4 g5 f5 g6 f6 g7 f7 g8 f8 g9 f9
          have OO := Lib.hid (show Out (w.heap.size + 1 + 1 + 1) u (n % 65536 ^ 4 * m) wf from ⟨r0, r1, r2, r3, r4, r5, r6, r7, r8, r9, q0, q1, q2, q3, q4, q5, q6, q7, q8, q9⟩)
          clear r0 q0 r1 q1 r2 q2 r3 q3 r4 q4 r5 q5 r6 q6 r7 q7 r8 q8 r9 q9
          all_goals go_roundw
          case rel => exact .inr (.inr (.inr (.inr (⟨rfl, OO, Lib.hid (Below.trans H5.out bf.out), Lib.hid (Nat.le_trans S5.out bf.out.size)⟩))))
          case measure => simp [intOf]
    · have HOo := HO.out
      rw [HN.out] at HOo
      have hb := HB.out
      have hs := HS.out
      have o0 : wr.cell? ⟨w.heap.size + 1 + 1 + 1, 0, none⟩ = some (.bool u) := HOo.c0
      have g0 : wr.cell? ⟨w.heap.size + 1 + 1, 0, none⟩ = some (.bool false) := by (rw [hb.cell (p := ⟨w.heap.size + 1 + 1, 0, none⟩) (by show w.heap.size + 1 + 1 < _; omega)]; go_simp)
      have f0 : wr.frozen? ⟨w.heap.size + 1 + 1, 0, none⟩ = false := by (rw [hb.frozen (p := ⟨w.heap.size + 1 + 1, 0, none⟩) (by show w.heap.size + 1 + 1 < _; omega)]; go_simp)
      have o1 : wr.cell? ⟨w.heap.size + 1 + 1 + 1, 1, none⟩ = some (.int .u32 (dig (n * m) 0 : Nat)) := HOo.c1
      have g1 : wr.cell? ⟨w.heap.size + 1 + 1, 1, none⟩ = some (.int .u32 0) := by (rw [hb.cell (p := ⟨w.heap.size + 1 + 1, 1, none⟩) (by show w.heap.size + 1 + 1 < _; omega)]; go_simp)
      have f1 : wr.frozen? ⟨w.heap.size + 1 + 1, 1, none⟩ = false := by (rw [hb.frozen (p := ⟨w.heap.size + 1 + 1, 1, none⟩) (by show w.heap.size + 1 + 1 < _; omega)]; go_simp)
      have o2 : wr.cell? ⟨w.heap.size + 1 + 1 + 1, 2, none⟩ = some (.int .u32 (dig (n * m) 1 : Nat)) := HOo.c2
      have g2 : wr.cell? ⟨w.heap.size + 1 + 1, 2, none⟩ = some (.int .u32 0) := by (rw [hb.cell (p := ⟨w.heap.size + 1 + 1, 2, none⟩) (by show w.heap.size + 1 + 1 < _; omega)]; go_simp)
      have f2 : wr.frozen? ⟨w.heap.size + 1 + 1, 2, none⟩ = false := by (rw [hb.frozen (p := ⟨w.heap.size + 1 + 1, 2, none⟩) (by show w.heap.size + 1 + 1 < _; omega)]; go_simp)
      have o3 : wr.cell? ⟨w.heap.size + 1 + 1 + 1, 3, none⟩ = some (.int .u32 (dig (n * m) 2 : Nat)) := HOo.c3
      have g3 : wr.cell? ⟨w.heap.size + 1 + 1, 3, none⟩ = some (.int .u32 0) := by (rw [hb.cell (p := ⟨w.heap.size + 1 + 1, 3, none⟩) (by show w.heap.size + 1 + 1 < _; omega)]; go_simp)
      have f3 : wr.frozen? ⟨w.heap.size + 1 + 1, 3, none⟩ = false := by (rw [hb.frozen (p := ⟨w.heap.size + 1 + 1, 3, none⟩) (by show w.heap.size + 1 + 1 < _; omega)]; go_simp)
      have o4 : wr.cell? ⟨w.heap.size + 1 + 1 + 1, 4, none⟩ = some (.int .u32 (dig (n * m) 3 : Nat)) := HOo.c4
      have g4 : wr.cell? ⟨w.heap.size + 1 + 1, 4, none⟩ = some (.int .u32 0) := by (rw [hb.cell (p := ⟨w.heap.size + 1 + 1, 4, none⟩) (by show w.heap.size + 1 + 1 < _; omega)]; go_simp)
      have f4 : wr.frozen? ⟨w.heap.size + 1 + 1, 4, none⟩ = false := by (rw [hb.frozen (p := ⟨w.heap.size + 1 + 1, 4, none⟩) (by show w.heap.size + 1 + 1 < _; omega)]; go_simp)
      have o5 : wr.cell? ⟨w.heap.size + 1 + 1 + 1, 5, none⟩ = some (.int .u32 (dig (n * m) 4 : Nat)) := HOo.c5
      have g5 : wr.cell? ⟨w.heap.size + 1 + 1, 5, none⟩ = some (.int .u32 0) := by (rw [hb.cell (p := ⟨w.heap.size + 1 + 1, 5, none⟩) (by show w.heap.size + 1 + 1 < _; omega)]; go_simp)
      have f5 : wr.frozen? ⟨w.heap.size + 1 + 1, 5, none⟩ = false := by (rw [hb.frozen (p := ⟨w.heap.size + 1 + 1, 5, none⟩) (by show w.heap.size + 1 + 1 < _; omega)]; go_simp)
      have o6 : wr.cell? ⟨w.heap.size + 1 + 1 + 1, 6, none⟩ = some (.int .u32 (dig (n * m) 5 : Nat)) := HOo.c6
      have g6 : wr.cell? ⟨w.heap.size + 1 + 1, 6, none⟩ = some (.int .u32 0) := by (rw [hb.cell (p := ⟨w.heap.size + 1 + 1, 6, none⟩) (by show w.heap.size + 1 + 1 < _; omega)]; go_simp)
      have f6 : wr.frozen? ⟨w.heap.size + 1 + 1, 6, none⟩ = false := by (rw [hb.frozen (p := ⟨w.heap.size + 1 + 1, 6, none⟩) (by show w.heap.size + 1 + 1 < _; omega)]; go_simp)
      have o7 : wr.cell? ⟨w.heap.size + 1 + 1 + 1, 7, none⟩ = some (.int .u32 (dig (n * m) 6 : Nat)) := HOo.c7
      have g7 : wr.cell? ⟨w.heap.size + 1 + 1, 7, none⟩ = some (.int .u32 0) := by (rw [hb.cell (p := ⟨w.heap.size + 1 + 1, 7, none⟩) (by show w.heap.size + 1 + 1 < _; omega)]; go_simp)
      have f7 : wr.frozen? ⟨w.heap.size + 1 + 1, 7, none⟩ = false := by (rw [hb.frozen (p := ⟨w.heap.size + 1 + 1, 7, none⟩) (by show w.heap.size + 1 + 1 < _; omega)]; go_simp)
      have o8 : wr.cell? ⟨w.heap.size + 1 + 1 + 1, 8, none⟩ = some (.int .u32 (dig (n * m) 7 : Nat)) := HOo.c8
      have g8 : wr.cell? ⟨w.heap.size + 1 + 1, 8, none⟩ = some (.int .u32 0) := by (rw [hb.cell (p := ⟨w.heap.size + 1 + 1, 8, none⟩) (by show w.heap.size + 1 + 1 < _; omega)]; go_simp)
      have f8 : wr.frozen? ⟨w.heap.size + 1 + 1, 8, none⟩ = false := by (rw [hb.frozen (p := ⟨w.heap.size + 1 + 1, 8, none⟩) (by show w.heap.size + 1 + 1 < _; omega)]; go_simp)
      have o9 : wr.cell? ⟨w.heap.size + 1 + 1 + 1, 9, none⟩ = some (.int .u32 (dig (n * m) 8 : Nat)) := HOo.c9
      have g9 : wr.cell? ⟨w.heap.size + 1 + 1, 9, none⟩ = some (.int .u32 0) := by (rw [hb.cell (p := ⟨w.heap.size + 1 + 1, 9, none⟩) (by show w.heap.size + 1 + 1 < _; omega)]; go_simp)
      have f9 : wr.frozen? ⟨w.heap.size + 1 + 1, 9, none⟩ = false := by (rw [hb.frozen (p := ⟨w.heap.size + 1 + 1, 9, none⟩) (by show w.heap.size + 1 + 1 < _; omega)]; go_simp)
      have fin : Below w.heap.size w wr := Below.trans (show Below w.heap.size w ((((w.alloc (.cells #[.bool s, .int .u32 (dig n 0 : Nat), .int .u32 (dig n 1 : Nat), .int .u32 (dig n 2 : Nat), .int .u32 (dig n 3 : Nat), .int .u32 (dig n 4 : Nat), .int .u32 (dig n 5 : Nat), .int .u32 (dig n 6 : Nat), .int .u32 (dig n 7 : Nat), .int .u32 (dig n 8 : Nat)] 43)).alloc (.cells #[.bool t, .int .u32 (dig m 0 : Nat), .int .u32 (dig m 1 : Nat), .int .u32 (dig m 2 : Nat), .int .u32 (dig m 3 : Nat), .int .u32 (dig m 4 : Nat), .int .u32 (dig m 5 : Nat), .int .u32 (dig m 6 : Nat), .int .u32 (dig m 7 : Nat), .int .u32 (dig m 8 : Nat)] 43)).alloc (.cells #[.bool false, .int .u32 0, .int .u32 0, .int .u32 0, .int .u32 0, .int .u32 0, .int .u32 0, .int .u32 0, .int .u32 0, .int .u32 0] 43)).alloc (.cells #[.bool u, .int .u32 0, .int .u32 0, .int .u32 0, .int .u32 0, .int .u32 0, .int .u32 0, .int .u32 0, .int .u32 0, .int .u32 0] 43)) by go_grown) (hb.mono (by omega))
      have FIN := Lib.hid fin
      clear HOo hb hs fin
      go_wp2
      obtain ⟨wf, hwf, r0, r1, r2, r3, r4, r5, r6, r7, r8, r9, bf⟩ : ∃ wf, ((((((((((wr.setCell ⟨w.heap.size + 1 + 1, 0, none⟩ (.bool u)).setCell ⟨w.heap.size + 1 + 1, 1, none⟩ (.int .u32 (dig (n * m) 0 : Nat))).setCell ⟨w.heap.size + 1 + 1, 2, none⟩ (.int .u32 (dig (n * m) 1 : Nat))).setCell ⟨w.heap.size + 1 + 1, 3, none⟩ (.int .u32 (dig (n * m) 2 : Nat))).setCell ⟨w.heap.size + 1 + 1, 4, none⟩ (.int .u32 (dig (n * m) 3 : Nat))).setCell ⟨w.heap.size + 1 + 1, 5, none⟩ (.int .u32 (dig (n * m) 4 : Nat))).setCell ⟨w.heap.size + 1 + 1, 6, none⟩ (.int .u32 (dig (n * m) 5 : Nat))).setCell ⟨w.heap.size + 1 + 1, 7, none⟩ (.int .u32 (dig (n * m) 6 : Nat))).setCell ⟨w.heap.size + 1 + 1, 8, none⟩ (.int .u32 (dig (n * m) 7 : Nat))).setCell ⟨w.heap.size + 1 + 1, 9, none⟩ (.int .u32 (dig (n * m) 8 : Nat))) = wf ∧ wf.cell? ⟨w.heap.size + 1 + 1, 0, none⟩ = some (.bool u) ∧ wf.cell? ⟨w.heap.size + 1 + 1, 1, none⟩ = some (.int .u32 (dig (n * m) 0 : Nat)) ∧ wf.cell? ⟨w.heap.size + 1 + 1, 2, none⟩ = some (.int .u32 (dig (n * m) 1 : Nat)) ∧ wf.cell? ⟨w.heap.size + 1 + 1, 3, none⟩ = some (.int .u32 (dig (n * m) 2 : Nat)) ∧ wf.cell? ⟨w.heap.size + 1 + 1, 4, none⟩ = some (.int .u32 (dig (n * m) 3 : Nat)) ∧ wf.cell? ⟨w.heap.size + 1 + 1, 5, none⟩ = some (.int .u32 (dig (n * m) 4 : Nat)) ∧ wf.cell? ⟨w.heap.size + 1 + 1, 6, none⟩ = some (.int .u32 (dig (n * m) 5 : Nat)) ∧ wf.cell? ⟨w.heap.size + 1 + 1, 7, none⟩ = some (.int .u32 (dig (n * m) 6 : Nat)) ∧ wf.cell? ⟨w.heap.size + 1 + 1, 8, none⟩ = some (.int .u32 (dig (n * m) 7 : Nat)) ∧ wf.cell? ⟨w.heap.size + 1 + 1, 9, none⟩ = some (.int .u32 (dig (n * m) 8 : Nat)) ∧ Hid (Below (w.heap.size + 1 + 1) wr wf) := by
        refine ⟨_, rfl, ?_, ?_, ?_, ?_, ?_, ?_, ?_, ?_, ?_, ?_, Lib.hid (by (iterate 10 (refine Below.setCell (p := ⟨w.heap.size + 1 + 1, _, none⟩) ?_ (Nat.le_refl (w.heap.size + 1 + 1)) _)); exact Below.refl _ _)⟩ <;> go_simp
      rw [hwf]
      refine bodyPost_ret (v := .agg #[.bool u, .int .u32 (dig (n * m) 0 : Nat), .int .u32 (dig (n * m) 1 : Nat), .int .u32 (dig (n * m) 2 : Nat), .int .u32 (dig (n * m) 3 : Nat), .int .u32 (dig (n * m) 4 : Nat), .int .u32 (dig (n * m) 5 : Nat), .int .u32 (dig (n * m) 6 : Nat), .int .u32 (dig (n * m) 7 : Nat), .int .u32 (dig (n * m) 8 : Nat)]) (by simp [results, Try.results36, go_sem, r0, r1, r2, r3, r4, r5, r6, r7, r8, r9]) rfl ⟨rfl, Below.trans FIN.out (bf.out.mono (by omega))⟩
end Go.Proofs.Ytplbdfdpcgmcjaa
