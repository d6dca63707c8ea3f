/- Contracts of the document's own answer for layer 1: numbers as long ones, and back. -/
import Derived.Test.YtplbdfdpcgmcjaaRefA
namespace Go.Proofs.Ytplbdfdpcgmcjaa
set_option linter.unusedVariables false
set_option linter.unusedSimpArgs false
open Go.ChangeShapes Go.WideShapes Go.ChangeAt Go.RowKit
open Long (dig)

def ofW (a : Int) (k : Nat) (w : World) : World := (w.alloc (.cells #[.bool false, .int .u32 0, .int .u32 0, .int .u32 0, .int .u32 0, .int .u32 0, .int .u32 0, .int .u32 0, .int .u32 0, .int .u32 0] 43)).alloc
  (.cells #[.bool (decide (a < 0)), .int .u32 (if 0 < k then (dig a.natAbs 0 : Nat) else 0), .int .u32 (if 1 < k then (dig a.natAbs 1 : Nat) else 0), .int .u32 (if 2 < k then (dig a.natAbs 2 : Nat) else 0), .int .u32 (if 3 < k then (dig a.natAbs 3 : Nat) else 0), .int .u32 0, .int .u32 0, .int .u32 0, .int .u32 0, .int .u32 0] 43)

theorem dig_high (n k : Nat) (h : n < 18446744073709551616) (hk : 4 ≤ k) : dig n k = 0 := by
  unfold dig
  have : 65536 ^ 4 ≤ 65536 ^ k := Nat.pow_le_pow_right (by omega) hk
  rw [Nat.div_eq_of_lt (by have e : 65536 ^ 4 = 18446744073709551616 := by decide
                           omega)]

set_option maxHeartbeats 8000000 in
theorem of_any (a : Int) (w : World) (ha1 : -9223372036854775808 ≤ a) (ha2 : a ≤ 9223372036854775807) :
    Calls Try.prog 32 #[.int .i64 a] w fun e w' => e = .returned (.agg #[.bool (decide (a < 0)), .int .u32 (dig a.natAbs 0 : Nat), .int .u32 (dig a.natAbs 1 : Nat), .int .u32 (dig a.natAbs 2 : Nat), .int .u32 (dig a.natAbs 3 : Nat), .int .u32 (dig a.natAbs 4 : Nat), .int .u32 (dig a.natAbs 5 : Nat), .int .u32 (dig a.natAbs 6 : Nat), .int .u32 (dig a.natAbs 7 : Nat), .int .u32 (dig a.natAbs 8 : Nat)]) ∧ Below w.heap.size w w' := by
  have h4 := Lib.hid (dig_high a.natAbs 4 (by omega) (by omega))
  have h5 := Lib.hid (dig_high a.natAbs 5 (by omega) (by omega))
  have h6 := Lib.hid (dig_high a.natAbs 6 (by omega) (by omega))
  have h7 := Lib.hid (dig_high a.natAbs 7 (by omega) (by omega))
  have h8 := Lib.hid (dig_high a.natAbs 8 (by omega) (by omega))
  by_cases hs : a < 0
  · have ds : decide (a < 0) = true := by simp; omega
    have DS := Lib.hid ds
    go_enter Try.func32, Try.ntmps32
    go_wp2
    go_loopw [0, 4] (fun v i wr => ∃ (k : Nat) (x : Int), k ≤ 4 ∧ i = .int .i64 k ∧ v = .int .i64 x ∧ x ≤ 0 ∧ Hid (x.natAbs = a.natAbs / 65536 ^ k) ∧ -9223372036854775808 ≤ x ∧ x ≤ 9223372036854775807 ∧ wr = ofW a k w) (fun _ i _ => (4 - intOf i).toNat)
    case atStart => exact ⟨0, a, by omega, rfl, rfl, by omega, by unfold Hid; simp, ha1, ha2, by unfold ofW; rw [DS.out]; rfl⟩
    case round =>
      obtain ⟨k, x, hk, rfl, rfl, hx, HX, x1, x2, rfl⟩ := hrel
      have hk' : k = 0 ∨ k = 1 ∨ k = 2 ∨ k = 3 ∨ k = 4 := by omega
      clear hk hs ds
      rcases hk' with rfl | rfl | rfl | rfl | rfl
      · have hx' := HX.out
        have t1 := Int.natAbs_tmod x 65536
        have t2 := Int.natAbs_tdiv x 65536
        have t3 : x.tmod 65536 ≤ 0 := by have := Int.tmod_nonneg 65536 (show 0 ≤ -x by omega); rw [Int.neg_tmod] at this; omega
        have t4 : -65536 < x.tmod 65536 := Int.lt_tmod_of_pos x (by omega)
        have t6 : x.tdiv 65536 ≤ 0 := by have := Int.tdiv_nonneg (show 0 ≤ -x by omega) (show (0 : Int) ≤ 65536 by omega); rw [Int.neg_tdiv] at this; omega
        have t7 : (x.tdiv 65536).natAbs ≤ x.natAbs := Int.natAbs_tdiv_le_natAbs x 65536
        have t5 : -9223372036854775808 ≤ x.tdiv 65536 := by omega
        have HD := Lib.hid (show -(x.tmod 65536) = (dig a.natAbs 0 : Nat) by
          have e : (x.tmod 65536).natAbs = dig a.natAbs 0 := by rw [t1, hx']; rfl
          omega)
        have HN := Lib.hid (show (x.tdiv 65536).natAbs = a.natAbs / 65536 ^ 1 by
          rw [t2, hx']
          show a.natAbs / 65536 ^ 0 / 65536 = _
          rw [Nat.div_div_eq_div_mul])
        clear hx' t1 t2 t7
        unfold ofW
        simp (config := { decide := true }) only [if_true, if_false, Int.cast_ofNat_Int]
        by_cases c : x.tmod 65536 < 0
        · go_wp2
          rw [HD.out]
          go_roundw
          case rel => exact ⟨1, _, by omega, rfl, rfl, t6, HN, t5, by omega, rfl⟩
          case measure => simp [intOf]
        · have c0 : x.tmod 65536 = 0 := by omega
          have HZ := Lib.hid (show (0 : Int) = (dig a.natAbs 0 : Nat) by rw [← HD.out, c0]; rfl)
          go_wp2
          try rw [c0]
          go_roundw
          case rel => exact ⟨1, _, by omega, rfl, rfl, t6, HN, t5, by omega, by simp (config := { decide := true }) only [if_true, if_false]; rw [← HZ.out]⟩
          case measure => simp [intOf]
      · have hx' := HX.out
        have t1 := Int.natAbs_tmod x 65536
        have t2 := Int.natAbs_tdiv x 65536
        have t3 : x.tmod 65536 ≤ 0 := by have := Int.tmod_nonneg 65536 (show 0 ≤ -x by omega); rw [Int.neg_tmod] at this; omega
        have t4 : -65536 < x.tmod 65536 := Int.lt_tmod_of_pos x (by omega)
        have t6 : x.tdiv 65536 ≤ 0 := by have := Int.tdiv_nonneg (show 0 ≤ -x by omega) (show (0 : Int) ≤ 65536 by omega); rw [Int.neg_tdiv] at this; omega
        have t7 : (x.tdiv 65536).natAbs ≤ x.natAbs := Int.natAbs_tdiv_le_natAbs x 65536
        have t5 : -9223372036854775808 ≤ x.tdiv 65536 := by omega
        have HD := Lib.hid (show -(x.tmod 65536) = (dig a.natAbs 1 : Nat) by
          have e : (x.tmod 65536).natAbs = dig a.natAbs 1 := by rw [t1, hx']; rfl
          omega)
        have HN := Lib.hid (show (x.tdiv 65536).natAbs = a.natAbs / 65536 ^ 2 by
          rw [t2, hx']
          show a.natAbs / 65536 ^ 1 / 65536 = _
          rw [Nat.div_div_eq_div_mul])
        clear hx' t1 t2 t7
        unfold ofW
        simp (config := { decide := true }) only [if_true, if_false, Int.cast_ofNat_Int]
        by_cases c : x.tmod 65536 < 0
        · go_wp2
          rw [HD.out]
          go_roundw
          case rel => exact ⟨2, _, by omega, rfl, rfl, t6, HN, t5, by omega, rfl⟩
          case measure => simp [intOf]
        · have c0 : x.tmod 65536 = 0 := by omega
          have HZ := Lib.hid (show (0 : Int) = (dig a.natAbs 1 : Nat) by rw [← HD.out, c0]; rfl)
          go_wp2
          try rw [c0]
          go_roundw
          case rel => exact ⟨2, _, by omega, rfl, rfl, t6, HN, t5, by omega, by simp (config := { decide := true }) only [if_true, if_false]; rw [← HZ.out]⟩
          case measure => simp [intOf]
      · have hx' := HX.out
        have t1 := Int.natAbs_tmod x 65536
        have t2 := Int.natAbs_tdiv x 65536
        have t3 : x.tmod 65536 ≤ 0 := by have := Int.tmod_nonneg 65536 (show 0 ≤ -x by omega); rw [Int.neg_tmod] at this; omega
        have t4 : -65536 < x.tmod 65536 := Int.lt_tmod_of_pos x (by omega)
        have t6 : x.tdiv 65536 ≤ 0 := by have := Int.tdiv_nonneg (show 0 ≤ -x by omega) (show (0 : Int) ≤ 65536 by omega); rw [Int.neg_tdiv] at this; omega
        have t7 : (x.tdiv 65536).natAbs ≤ x.natAbs := Int.natAbs_tdiv_le_natAbs x 65536
        have t5 : -9223372036854775808 ≤ x.tdiv 65536 := by omega
        have HD := Lib.hid (show -(x.tmod 65536) = (dig a.natAbs 2 : Nat) by
          have e : (x.tmod 65536).natAbs = dig a.natAbs 2 := by rw [t1, hx']; rfl
          omega)
        have HN := Lib.hid (show (x.tdiv 65536).natAbs = a.natAbs / 65536 ^ 3 by
          rw [t2, hx']
          show a.natAbs / 65536 ^ 2 / 65536 = _
          rw [Nat.div_div_eq_div_mul])
        clear hx' t1 t2 t7
        unfold ofW
        simp (config := { decide := true }) only [if_true, if_false, Int.cast_ofNat_Int]
        by_cases c : x.tmod 65536 < 0
        · go_wp2
          rw [HD.out]
          go_roundw
          case rel => exact ⟨3, _, by omega, rfl, rfl, t6, HN, t5, by omega, rfl⟩
          case measure => simp [intOf]
        · have c0 : x.tmod 65536 = 0 := by omega
          have HZ := Lib.hid (show (0 : Int) = (dig a.natAbs 2 : Nat) by rw [← HD.out, c0]; rfl)
          go_wp2
          try rw [c0]
          go_roundw
          case rel => exact ⟨3, _, by omega, rfl, rfl, t6, HN, t5, by omega, by simp (config := { decide := true }) only [if_true, if_false]; rw [← HZ.out]⟩
          case measure => simp [intOf]
      · have hx' := HX.out
        have t1 := Int.natAbs_tmod x 65536
        have t2 := Int.natAbs_tdiv x 65536
        have t3 : x.tmod 65536 ≤ 0 := by have := Int.tmod_nonneg 65536 (show 0 ≤ -x by omega); rw [Int.neg_tmod] at this; omega
        have t4 : -65536 < x.tmod 65536 := Int.lt_tmod_of_pos x (by omega)
        have t6 : x.tdiv 65536 ≤ 0 := by have := Int.tdiv_nonneg (show 0 ≤ -x by omega) (show (0 : Int) ≤ 65536 by omega); rw [Int.neg_tdiv] at this; omega
        have t7 : (x.tdiv 65536).natAbs ≤ x.natAbs := Int.natAbs_tdiv_le_natAbs x 65536
        have t5 : -9223372036854775808 ≤ x.tdiv 65536 := by omega
        have HD := Lib.hid (show -(x.tmod 65536) = (dig a.natAbs 3 : Nat) by
          have e : (x.tmod 65536).natAbs = dig a.natAbs 3 := by rw [t1, hx']; rfl
          omega)
        have HN := Lib.hid (show (x.tdiv 65536).natAbs = a.natAbs / 65536 ^ 4 by
          rw [t2, hx']
          show a.natAbs / 65536 ^ 3 / 65536 = _
          rw [Nat.div_div_eq_div_mul])
        clear hx' t1 t2 t7
        unfold ofW
        simp (config := { decide := true }) only [if_true, if_false, Int.cast_ofNat_Int]
        by_cases c : x.tmod 65536 < 0
        · go_wp2
          rw [HD.out]
          go_roundw
          case rel => exact ⟨4, _, by omega, rfl, rfl, t6, HN, t5, by omega, rfl⟩
          case measure => simp [intOf]
        · have c0 : x.tmod 65536 = 0 := by omega
          have HZ := Lib.hid (show (0 : Int) = (dig a.natAbs 3 : Nat) by rw [← HD.out, c0]; rfl)
          go_wp2
          try rw [c0]
          go_roundw
          case rel => exact ⟨4, _, by omega, rfl, rfl, t6, HN, t5, by omega, by simp (config := { decide := true }) only [if_true, if_false]; rw [← HZ.out]⟩
          case measure => simp [intOf]
      · unfold ofW
        simp (config := { decide := true }) only [if_true, if_false, Int.cast_ofNat_Int]
        go_wp2
        go_returns
        exact ⟨by rw [h4.out, h5.out, h6.out, h7.out, h8.out]; rfl, by go_grown⟩
  · have ds : decide (a < 0) = false := by simp; omega
    have DS := Lib.hid ds
    go_enter Try.func32, Try.ntmps32
    go_wp2
    go_loopw [0, 4] (fun v i wr => ∃ (k : Nat) (x : Int), k ≤ 4 ∧ i = .int .i64 k ∧ v = .int .i64 x ∧ 0 ≤ x ∧ Hid (x.natAbs = a.natAbs / 65536 ^ k) ∧ -9223372036854775808 ≤ x ∧ x ≤ 9223372036854775807 ∧ wr = ofW a k w) (fun _ i _ => (4 - intOf i).toNat)
    case atStart => exact ⟨0, a, by omega, rfl, rfl, by omega, by unfold Hid; simp, ha1, ha2, by unfold ofW; rw [DS.out]; rfl⟩
    case round =>
      obtain ⟨k, x, hk, rfl, rfl, hx, HX, x1, x2, rfl⟩ := hrel
      have hk' : k = 0 ∨ k = 1 ∨ k = 2 ∨ k = 3 ∨ k = 4 := by omega
      clear hk hs ds
      rcases hk' with rfl | rfl | rfl | rfl | rfl
      · have hx' := HX.out
        have HD := Lib.hid (show x % 65536 = (dig a.natAbs 0 : Nat) by unfold dig; rw [← hx']; omega)
        have HN := Lib.hid (show (x / 65536).natAbs = a.natAbs / 65536 ^ 1 by
          rw [Nat.pow_succ, ← Nat.div_div_eq_div_mul, ← hx']
          omega)
        have t1 : 0 ≤ x % 65536 := by omega
        have t2 : x % 65536 < 65536 := by omega
        have c : ¬ x % 65536 < 0 := by omega
        clear hx'
        unfold ofW
        simp (config := { decide := true }) only [if_true, if_false, Int.cast_ofNat_Int]
        go_wp2
        rw [HD.out]
        go_roundw
        case rel => exact ⟨1, _, by omega, rfl, rfl, by omega, HN, by omega, by omega, rfl⟩
        case measure => simp [intOf]
      · have hx' := HX.out
        have HD := Lib.hid (show x % 65536 = (dig a.natAbs 1 : Nat) by unfold dig; rw [← hx']; omega)
        have HN := Lib.hid (show (x / 65536).natAbs = a.natAbs / 65536 ^ 2 by
          rw [Nat.pow_succ, ← Nat.div_div_eq_div_mul, ← hx']
          omega)
        have t1 : 0 ≤ x % 65536 := by omega
        have t2 : x % 65536 < 65536 := by omega
        have c : ¬ x % 65536 < 0 := by omega
        clear hx'
        unfold ofW
        simp (config := { decide := true }) only [if_true, if_false, Int.cast_ofNat_Int]
        go_wp2
        rw [HD.out]
        go_roundw
        case rel => exact ⟨2, _, by omega, rfl, rfl, by omega, HN, by omega, by omega, rfl⟩
        case measure => simp [intOf]
      · have hx' := HX.out
        have HD := Lib.hid (show x % 65536 = (dig a.natAbs 2 : Nat) by unfold dig; rw [← hx']; omega)
        have HN := Lib.hid (show (x / 65536).natAbs = a.natAbs / 65536 ^ 3 by
          rw [Nat.pow_succ, ← Nat.div_div_eq_div_mul, ← hx']
          omega)
        have t1 : 0 ≤ x % 65536 := by omega
        have t2 : x % 65536 < 65536 := by omega
        have c : ¬ x % 65536 < 0 := by omega
        clear hx'
        unfold ofW
        simp (config := { decide := true }) only [if_true, if_false, Int.cast_ofNat_Int]
        go_wp2
        rw [HD.out]
        go_roundw
        case rel => exact ⟨3, _, by omega, rfl, rfl, by omega, HN, by omega, by omega, rfl⟩
        case measure => simp [intOf]
      · have hx' := HX.out
        have HD := Lib.hid (show x % 65536 = (dig a.natAbs 3 : Nat) by unfold dig; rw [← hx']; omega)
        have HN := Lib.hid (show (x / 65536).natAbs = a.natAbs / 65536 ^ 4 by
          rw [Nat.pow_succ, ← Nat.div_div_eq_div_mul, ← hx']
          omega)
        have t1 : 0 ≤ x % 65536 := by omega
        have t2 : x % 65536 < 65536 := by omega
        have c : ¬ x % 65536 < 0 := by omega
        clear hx'
        unfold ofW
        simp (config := { decide := true }) only [if_true, if_false, Int.cast_ofNat_Int]
        go_wp2
        rw [HD.out]
        go_roundw
        case rel => exact ⟨4, _, by omega, rfl, rfl, by omega, HN, by omega, by omega, rfl⟩
        case measure => simp [intOf]
      · unfold ofW
        simp (config := { decide := true }) only [if_true, if_false, Int.cast_ofNat_Int]
        go_wp2
        go_returns
        exact ⟨by rw [h4.out, h5.out, h6.out, h7.out, h8.out]; rfl, by go_grown⟩

/-- What number answers of a sign and a size. -/
def numE (s : Bool) (n : Nat) : Ending :=
  if s = true ∧ n ≤ 9223372036854775808 then .returned (.tuple #[.int .i64 (-(n : Int)), .int .i64 0])
  else if s = false ∧ n ≤ 9223372036854775807 then .returned (.tuple #[.int .i64 n, .int .i64 0])
  else .returned (.tuple #[.int .i64 0, .int .i64 10])
theorem numE_over (s : Bool) (n : Nat) (h : 9223372036854775808 < n) : numE s n = .returned (.tuple #[.int .i64 0, .int .i64 10]) := by
  unfold numE
  rw [if_neg (by omega), if_neg (by omega)]
theorem numE_neg (n : Nat) (h : n ≤ 9223372036854775808) : numE true n = .returned (.tuple #[.int .i64 (-(n : Int)), .int .i64 0]) := by
  unfold numE
  rw [if_pos ⟨rfl, h⟩]
theorem numE_pos (n : Nat) (h : n ≤ 9223372036854775807) : numE false n = .returned (.tuple #[.int .i64 n, .int .i64 0]) := by
  unfold numE
  rw [if_neg (by simp), if_pos ⟨rfl, h⟩]
theorem numE_least : numE false 9223372036854775808 = .returned (.tuple #[.int .i64 0, .int .i64 10]) := by
  unfold numE
  rw [if_neg (by simp), if_neg (by omega)]

set_option maxHeartbeats 8000000 in
theorem number_any (s : Bool) (n : Nat) (w : World) (hn : n < 22300745198530623141535718272648361505980416) :
    Calls Try.prog 30 #[.agg #[.bool s, .int .u32 (dig n 0 : Nat), .int .u32 (dig n 1 : Nat), .int .u32 (dig n 2 : Nat), .int .u32 (dig n 3 : Nat), .int .u32 (dig n 4 : Nat), .int .u32 (dig n 5 : Nat), .int .u32 (dig n 6 : Nat), .int .u32 (dig n 7 : Nat), .int .u32 (dig n 8 : Nat)]] w fun e w' => e = numE s n ∧ Below w.heap.size w w' := by
  have H0 := Lib.hid (show n / 65536 ^ 9 = 0 by simp only [Nat.reducePow]; omega)
  have HN := Lib.hid (show n = n / 65536 ^ 0 by simp)
  clear hn
  go_enter Try.func30, Try.ntmps30
  go_wp2
  go_loop [4, 6] (fun v i => ∃ k : Nat, k ≤ 9 ∧ i = .int .i64 ((k : Int) - 1) ∧ v = .int .i64 (-((n / 65536 ^ k : Nat) : Int)) ∧ Hid (4 ≤ k → n / 65536 ^ k = 0) ∧ n / 65536 ^ k ≤ 9223372036854775808) (fun _ i => (1 + intOf i).toNat)
  case atStart => exact ⟨9, by omega, rfl, by rw [H0.out]; rfl, fun _ => H0.out, by rw [H0.out]; omega⟩
  case round =>
    obtain ⟨k, hk, rfl, rfl, HK, hb⟩ := hrel
    have hk' : k = 0 ∨ k = 1 ∨ k = 2 ∨ k = 3 ∨ k = 4 ∨ k = 5 ∨ k = 6 ∨ k = 7 ∨ k = 8 ∨ k = 9 := by omega
    clear hk H0
    rcases hk' with rfl | rfl | rfl | rfl | rfl | rfl | rfl | rfl | rfl | rfl
    · have e := HN.out
      rw [← e] at hb
      rw [← e]
      clear HK e
      simp only [Int.cast_ofNat_Int, Int.reduceSub]
      cases s
      · by_cases c : n = 9223372036854775808
        · subst c
          go_wp2
          go_returns
          exact ⟨numE_least.symm, by go_grown⟩
        · have c' : n ≤ 9223372036854775807 := by omega
          have d : ((-(n : Int)) == -9223372036854775808) = false := by simp; omega
          clear c hb
          have R := Lib.hid (numE_pos n c')
          go_wp2
          go_returns
          exact ⟨by rw [R.out]; simp, by go_grown⟩
      · have R := Lib.hid (numE_neg n hb)
        go_wp2
        go_returns
        exact ⟨R.out.symm, by go_grown⟩
    · have s1 : n / 65536 ^ 0 = n / 65536 ^ 1 * 65536 + dig n 0 := high_step n 0
      have a1 := Long.dig_lt n 0
      by_cases c : n / 65536 ^ 1 * 65536 + dig n 0 ≤ 9223372036854775808
      · have td : (-9223372036854775808 + (dig n 0 : Int)).tdiv 65536 = -((9223372036854775808 - (dig n 0 : Int)) / 65536) := by
          rw [show (-9223372036854775808 + (dig n 0 : Int)) = -(9223372036854775808 - (dig n 0 : Int)) from by omega, Int.neg_tdiv, Int.tdiv_eq_ediv_of_nonneg (by omega)]
        have dt : decide (-((n / 65536 ^ 1 : Nat) : Int) < (-9223372036854775808 + (dig n 0 : Int)).tdiv 65536) = false := by
          rw [td]; simp; omega
        have b1 : (-9223372036854775808 + (dig n 0 : Int)).tdiv 65536 ≤ 0 := by rw [td]; omega
        have b2 : -140737488355328 ≤ (-9223372036854775808 + (dig n 0 : Int)).tdiv 65536 := by rw [td]; omega
        have R := Lib.hid (show -((n / 65536 ^ 1 : Nat) : Int) * 65536 - (dig n 0 : Nat) = -((n / 65536 ^ 0 : Nat) : Int) by rw [s1]; omega)
        have RB := Lib.hid (show n / 65536 ^ 0 ≤ 9223372036854775808 by rw [s1]; exact c)
        clear s1 HK td
        generalize n / 65536 ^ 1 = Q at *
        simp only [Int.cast_ofNat_Int, Int.reduceSub]
        go_wp2
        go_round
        case rel => exact ⟨0, by omega, rfl, by rw [R.out], fun h => absurd h (by omega), RB.out⟩
        case measure => simp [intOf]
      · have big : 9223372036854775808 < n := by
          have : n / 65536 ^ 0 ≤ n := Nat.div_le_self _ _
          omega
        have R := Lib.hid (numE_over s n big)
        have td : (-9223372036854775808 + (dig n 0 : Int)).tdiv 65536 = -((9223372036854775808 - (dig n 0 : Int)) / 65536) := by
          rw [show (-9223372036854775808 + (dig n 0 : Int)) = -(9223372036854775808 - (dig n 0 : Int)) from by omega, Int.neg_tdiv, Int.tdiv_eq_ediv_of_nonneg (by omega)]
        have dt : decide (-((n / 65536 ^ 1 : Nat) : Int) < (-9223372036854775808 + (dig n 0 : Int)).tdiv 65536) = true := by
          rw [td]; simp; omega
        have b1 : (-9223372036854775808 + (dig n 0 : Int)).tdiv 65536 ≤ 0 := by rw [td]; omega
        have b2 : -140737488355328 ≤ (-9223372036854775808 + (dig n 0 : Int)).tdiv 65536 := by rw [td]; omega
        clear s1 HK td c big
        generalize n / 65536 ^ 1 = Q at *
        simp only [Int.cast_ofNat_Int, Int.reduceSub]
        go_wp2
        go_returns
        exact ⟨R.out.symm, by go_grown⟩
    · have s1 : n / 65536 ^ 1 = n / 65536 ^ 2 * 65536 + dig n 1 := high_step n 1
      have a1 := Long.dig_lt n 1
      by_cases c : n / 65536 ^ 2 * 65536 + dig n 1 ≤ 9223372036854775808
      · have td : (-9223372036854775808 + (dig n 1 : Int)).tdiv 65536 = -((9223372036854775808 - (dig n 1 : Int)) / 65536) := by
          rw [show (-9223372036854775808 + (dig n 1 : Int)) = -(9223372036854775808 - (dig n 1 : Int)) from by omega, Int.neg_tdiv, Int.tdiv_eq_ediv_of_nonneg (by omega)]
        have dt : decide (-((n / 65536 ^ 2 : Nat) : Int) < (-9223372036854775808 + (dig n 1 : Int)).tdiv 65536) = false := by
          rw [td]; simp; omega
        have b1 : (-9223372036854775808 + (dig n 1 : Int)).tdiv 65536 ≤ 0 := by rw [td]; omega
        have b2 : -140737488355328 ≤ (-9223372036854775808 + (dig n 1 : Int)).tdiv 65536 := by rw [td]; omega
        have R := Lib.hid (show -((n / 65536 ^ 2 : Nat) : Int) * 65536 - (dig n 1 : Nat) = -((n / 65536 ^ 1 : Nat) : Int) by rw [s1]; omega)
        have RB := Lib.hid (show n / 65536 ^ 1 ≤ 9223372036854775808 by rw [s1]; exact c)
        clear s1 HK td
        generalize n / 65536 ^ 2 = Q at *
        simp only [Int.cast_ofNat_Int, Int.reduceSub]
        go_wp2
        go_round
        case rel => exact ⟨1, by omega, rfl, by rw [R.out], fun h => absurd h (by omega), RB.out⟩
        case measure => simp [intOf]
      · have big : 9223372036854775808 < n := by
          have : n / 65536 ^ 1 ≤ n := Nat.div_le_self _ _
          omega
        have R := Lib.hid (numE_over s n big)
        have td : (-9223372036854775808 + (dig n 1 : Int)).tdiv 65536 = -((9223372036854775808 - (dig n 1 : Int)) / 65536) := by
          rw [show (-9223372036854775808 + (dig n 1 : Int)) = -(9223372036854775808 - (dig n 1 : Int)) from by omega, Int.neg_tdiv, Int.tdiv_eq_ediv_of_nonneg (by omega)]
        have dt : decide (-((n / 65536 ^ 2 : Nat) : Int) < (-9223372036854775808 + (dig n 1 : Int)).tdiv 65536) = true := by
          rw [td]; simp; omega
        have b1 : (-9223372036854775808 + (dig n 1 : Int)).tdiv 65536 ≤ 0 := by rw [td]; omega
        have b2 : -140737488355328 ≤ (-9223372036854775808 + (dig n 1 : Int)).tdiv 65536 := by rw [td]; omega
        clear s1 HK td c big
        generalize n / 65536 ^ 2 = Q at *
        simp only [Int.cast_ofNat_Int, Int.reduceSub]
        go_wp2
        go_returns
        exact ⟨R.out.symm, by go_grown⟩
    · have s1 : n / 65536 ^ 2 = n / 65536 ^ 3 * 65536 + dig n 2 := high_step n 2
      have a1 := Long.dig_lt n 2
      by_cases c : n / 65536 ^ 3 * 65536 + dig n 2 ≤ 9223372036854775808
      · have td : (-9223372036854775808 + (dig n 2 : Int)).tdiv 65536 = -((9223372036854775808 - (dig n 2 : Int)) / 65536) := by
          rw [show (-9223372036854775808 + (dig n 2 : Int)) = -(9223372036854775808 - (dig n 2 : Int)) from by omega, Int.neg_tdiv, Int.tdiv_eq_ediv_of_nonneg (by omega)]
        have dt : decide (-((n / 65536 ^ 3 : Nat) : Int) < (-9223372036854775808 + (dig n 2 : Int)).tdiv 65536) = false := by
          rw [td]; simp; omega
        have b1 : (-9223372036854775808 + (dig n 2 : Int)).tdiv 65536 ≤ 0 := by rw [td]; omega
        have b2 : -140737488355328 ≤ (-9223372036854775808 + (dig n 2 : Int)).tdiv 65536 := by rw [td]; omega
        have R := Lib.hid (show -((n / 65536 ^ 3 : Nat) : Int) * 65536 - (dig n 2 : Nat) = -((n / 65536 ^ 2 : Nat) : Int) by rw [s1]; omega)
        have RB := Lib.hid (show n / 65536 ^ 2 ≤ 9223372036854775808 by rw [s1]; exact c)
        clear s1 HK td
        generalize n / 65536 ^ 3 = Q at *
        simp only [Int.cast_ofNat_Int, Int.reduceSub]
        go_wp2
        go_round
        case rel => exact ⟨2, by omega, rfl, by rw [R.out], fun h => absurd h (by omega), RB.out⟩
        case measure => simp [intOf]
      · have big : 9223372036854775808 < n := by
          have : n / 65536 ^ 2 ≤ n := Nat.div_le_self _ _
          omega
        have R := Lib.hid (numE_over s n big)
        have td : (-9223372036854775808 + (dig n 2 : Int)).tdiv 65536 = -((9223372036854775808 - (dig n 2 : Int)) / 65536) := by
          rw [show (-9223372036854775808 + (dig n 2 : Int)) = -(9223372036854775808 - (dig n 2 : Int)) from by omega, Int.neg_tdiv, Int.tdiv_eq_ediv_of_nonneg (by omega)]
        have dt : decide (-((n / 65536 ^ 3 : Nat) : Int) < (-9223372036854775808 + (dig n 2 : Int)).tdiv 65536) = true := by
          rw [td]; simp; omega
        have b1 : (-9223372036854775808 + (dig n 2 : Int)).tdiv 65536 ≤ 0 := by rw [td]; omega
        have b2 : -140737488355328 ≤ (-9223372036854775808 + (dig n 2 : Int)).tdiv 65536 := by rw [td]; omega
        clear s1 HK td c big
        generalize n / 65536 ^ 3 = Q at *
        simp only [Int.cast_ofNat_Int, Int.reduceSub]
        go_wp2
        go_returns
        exact ⟨R.out.symm, by go_grown⟩
    · have s1 : n / 65536 ^ 3 = n / 65536 ^ 4 * 65536 + dig n 3 := high_step n 3
      have a1 := Long.dig_lt n 3
      by_cases c : n / 65536 ^ 4 * 65536 + dig n 3 ≤ 9223372036854775808
      · have td : (-9223372036854775808 + (dig n 3 : Int)).tdiv 65536 = -((9223372036854775808 - (dig n 3 : Int)) / 65536) := by
          rw [show (-9223372036854775808 + (dig n 3 : Int)) = -(9223372036854775808 - (dig n 3 : Int)) from by omega, Int.neg_tdiv, Int.tdiv_eq_ediv_of_nonneg (by omega)]
        have dt : decide (-((n / 65536 ^ 4 : Nat) : Int) < (-9223372036854775808 + (dig n 3 : Int)).tdiv 65536) = false := by
          rw [td]; simp; omega
        have b1 : (-9223372036854775808 + (dig n 3 : Int)).tdiv 65536 ≤ 0 := by rw [td]; omega
        have b2 : -140737488355328 ≤ (-9223372036854775808 + (dig n 3 : Int)).tdiv 65536 := by rw [td]; omega
        have R := Lib.hid (show -((n / 65536 ^ 4 : Nat) : Int) * 65536 - (dig n 3 : Nat) = -((n / 65536 ^ 3 : Nat) : Int) by rw [s1]; omega)
        have RB := Lib.hid (show n / 65536 ^ 3 ≤ 9223372036854775808 by rw [s1]; exact c)
        clear s1 HK td
        generalize n / 65536 ^ 4 = Q at *
        simp only [Int.cast_ofNat_Int, Int.reduceSub]
        go_wp2
        go_round
        case rel => exact ⟨3, by omega, rfl, by rw [R.out], fun h => absurd h (by omega), RB.out⟩
        case measure => simp [intOf]
      · have big : 9223372036854775808 < n := by
          have : n / 65536 ^ 3 ≤ n := Nat.div_le_self _ _
          omega
        have R := Lib.hid (numE_over s n big)
        have td : (-9223372036854775808 + (dig n 3 : Int)).tdiv 65536 = -((9223372036854775808 - (dig n 3 : Int)) / 65536) := by
          rw [show (-9223372036854775808 + (dig n 3 : Int)) = -(9223372036854775808 - (dig n 3 : Int)) from by omega, Int.neg_tdiv, Int.tdiv_eq_ediv_of_nonneg (by omega)]
        have dt : decide (-((n / 65536 ^ 4 : Nat) : Int) < (-9223372036854775808 + (dig n 3 : Int)).tdiv 65536) = true := by
          rw [td]; simp; omega
        have b1 : (-9223372036854775808 + (dig n 3 : Int)).tdiv 65536 ≤ 0 := by rw [td]; omega
        have b2 : -140737488355328 ≤ (-9223372036854775808 + (dig n 3 : Int)).tdiv 65536 := by rw [td]; omega
        clear s1 HK td c big
        generalize n / 65536 ^ 4 = Q at *
        simp only [Int.cast_ofNat_Int, Int.reduceSub]
        go_wp2
        go_returns
        exact ⟨R.out.symm, by go_grown⟩
    · have s1 : n / 65536 ^ 4 = n / 65536 ^ 5 * 65536 + dig n 4 := high_step n 4
      have h0 := HK.out (by omega)
      rw [h0] at s1
      have a1 := Long.dig_lt n 4
      by_cases c : dig n 4 = 0
      · have HZ := Lib.hid (show n / 65536 ^ 4 = 0 by rw [s1, c])
        have c' : ¬ (0 : Int) < (dig n 4 : Nat) := by omega
        rw [h0]
        clear s1 HK h0 hb c
        simp only [Int.cast_ofNat_Int, Int.reduceSub, Int.reduceNeg, Int.neg_zero]
        go_wp2
        go_round
        case rel => exact ⟨4, by omega, rfl, by rw [HZ.out]; rfl, fun _ => HZ.out, by rw [HZ.out]; omega⟩
        case measure => simp [intOf]
      · have big : 9223372036854775808 < n := by
          have e1 : 1 ≤ n / 65536 ^ 4 := by omega
          have e2 := (Nat.le_div_iff_mul_le (Nat.pow_pos (by omega))).1 e1
          simp only [Nat.reducePow] at e2
          omega
        have R := Lib.hid (numE_over s n big)
        have c' : (0 : Int) < (dig n 4 : Nat) := by omega
        clear s1 HK h0 hb c big
        simp only [Int.cast_ofNat_Int, Int.reduceSub]
        go_wp2
        go_returns
        exact ⟨R.out.symm, by go_grown⟩
    · have s1 : n / 65536 ^ 5 = n / 65536 ^ 6 * 65536 + dig n 5 := high_step n 5
      have h0 := HK.out (by omega)
      rw [h0] at s1
      have a1 := Long.dig_lt n 5
      by_cases c : dig n 5 = 0
      · have HZ := Lib.hid (show n / 65536 ^ 5 = 0 by rw [s1, c])
        have c' : ¬ (0 : Int) < (dig n 5 : Nat) := by omega
        rw [h0]
        clear s1 HK h0 hb c
        simp only [Int.cast_ofNat_Int, Int.reduceSub, Int.reduceNeg, Int.neg_zero]
        go_wp2
        go_round
        case rel => exact ⟨5, by omega, rfl, by rw [HZ.out]; rfl, fun _ => HZ.out, by rw [HZ.out]; omega⟩
        case measure => simp [intOf]
      · have big : 9223372036854775808 < n := by
          have e1 : 1 ≤ n / 65536 ^ 5 := by omega
          have e2 := (Nat.le_div_iff_mul_le (Nat.pow_pos (by omega))).1 e1
          simp only [Nat.reducePow] at e2
          omega
        have R := Lib.hid (numE_over s n big)
        have c' : (0 : Int) < (dig n 5 : Nat) := by omega
        clear s1 HK h0 hb c big
        simp only [Int.cast_ofNat_Int, Int.reduceSub]
        go_wp2
        go_returns
        exact ⟨R.out.symm, by go_grown⟩
    · have s1 : n / 65536 ^ 6 = n / 65536 ^ 7 * 65536 + dig n 6 := high_step n 6
      have h0 := HK.out (by omega)
      rw [h0] at s1
      have a1 := Long.dig_lt n 6
      by_cases c : dig n 6 = 0
      · have HZ := Lib.hid (show n / 65536 ^ 6 = 0 by rw [s1, c])
        have c' : ¬ (0 : Int) < (dig n 6 : Nat) := by omega
        rw [h0]
        clear s1 HK h0 hb c
        simp only [Int.cast_ofNat_Int, Int.reduceSub, Int.reduceNeg, Int.neg_zero]
        go_wp2
        go_round
        case rel => exact ⟨6, by omega, rfl, by rw [HZ.out]; rfl, fun _ => HZ.out, by rw [HZ.out]; omega⟩
        case measure => simp [intOf]
      · have big : 9223372036854775808 < n := by
          have e1 : 1 ≤ n / 65536 ^ 6 := by omega
          have e2 := (Nat.le_div_iff_mul_le (Nat.pow_pos (by omega))).1 e1
          simp only [Nat.reducePow] at e2
          omega
        have R := Lib.hid (numE_over s n big)
        have c' : (0 : Int) < (dig n 6 : Nat) := by omega
        clear s1 HK h0 hb c big
        simp only [Int.cast_ofNat_Int, Int.reduceSub]
        go_wp2
        go_returns
        exact ⟨R.out.symm, by go_grown⟩
    · have s1 : n / 65536 ^ 7 = n / 65536 ^ 8 * 65536 + dig n 7 := high_step n 7
      have h0 := HK.out (by omega)
      rw [h0] at s1
      have a1 := Long.dig_lt n 7
      by_cases c : dig n 7 = 0
      · have HZ := Lib.hid (show n / 65536 ^ 7 = 0 by rw [s1, c])
        have c' : ¬ (0 : Int) < (dig n 7 : Nat) := by omega
        rw [h0]
        clear s1 HK h0 hb c
        simp only [Int.cast_ofNat_Int, Int.reduceSub, Int.reduceNeg, Int.neg_zero]
        go_wp2
        go_round
        case rel => exact ⟨7, by omega, rfl, by rw [HZ.out]; rfl, fun _ => HZ.out, by rw [HZ.out]; omega⟩
        case measure => simp [intOf]
      · have big : 9223372036854775808 < n := by
          have e1 : 1 ≤ n / 65536 ^ 7 := by omega
          have e2 := (Nat.le_div_iff_mul_le (Nat.pow_pos (by omega))).1 e1
          simp only [Nat.reducePow] at e2
          omega
        have R := Lib.hid (numE_over s n big)
        have c' : (0 : Int) < (dig n 7 : Nat) := by omega
        clear s1 HK h0 hb c big
        simp only [Int.cast_ofNat_Int, Int.reduceSub]
        go_wp2
        go_returns
        exact ⟨R.out.symm, by go_grown⟩
    · have s1 : n / 65536 ^ 8 = n / 65536 ^ 9 * 65536 + dig n 8 := high_step n 8
      have h0 := HK.out (by omega)
      rw [h0] at s1
      have a1 := Long.dig_lt n 8
      by_cases c : dig n 8 = 0
      · have HZ := Lib.hid (show n / 65536 ^ 8 = 0 by rw [s1, c])
        have c' : ¬ (0 : Int) < (dig n 8 : Nat) := by omega
        rw [h0]
        clear s1 HK h0 hb c
        simp only [Int.cast_ofNat_Int, Int.reduceSub, Int.reduceNeg, Int.neg_zero]
        go_wp2
        go_round
        case rel => exact ⟨8, by omega, rfl, by rw [HZ.out]; rfl, fun _ => HZ.out, by rw [HZ.out]; omega⟩
        case measure => simp [intOf]
      · have big : 9223372036854775808 < n := by
          have e1 : 1 ≤ n / 65536 ^ 8 := by omega
          have e2 := (Nat.le_div_iff_mul_le (Nat.pow_pos (by omega))).1 e1
          simp only [Nat.reducePow] at e2
          omega
        have R := Lib.hid (numE_over s n big)
        have c' : (0 : Int) < (dig n 8 : Nat) := by omega
        clear s1 HK h0 hb c big
        simp only [Int.cast_ofNat_Int, Int.reduceSub]
        go_wp2
        go_returns
        exact ⟨R.out.symm, by go_grown⟩
end Go.Proofs.Ytplbdfdpcgmcjaa
