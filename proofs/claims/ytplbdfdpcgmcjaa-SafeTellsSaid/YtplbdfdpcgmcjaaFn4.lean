/- Contracts of the functions of package safe: Floor, Lcm. -/
import Derived.Test.YtplbdfdpcgmcjaaFn3
namespace Go.Proofs.Ytplbdfdpcgmcjaa
set_option linter.unusedVariables false
open Go.ChangeShapes Go.WideShapes Go.ChangeAt Go.RowKit

theorem fl_unique {a b q r : Int} (h : q * b + r = a) (hr : (0 < b ∧ 0 ≤ r ∧ r < b) ∨ (b < 0 ∧ b < r ∧ r ≤ 0)) : q = a.fdiv b ∧ r = a.fmod b := by
  rcases hr with ⟨hb, h1, h2⟩ | ⟨hb, h1, h2⟩
  · have := (Int.fdiv_fmod_unique (a := a) (b := b) (r := r) (q := q) hb).2 ⟨by rw [Int.mul_comm b q]; omega, h1, h2⟩
    exact ⟨this.1.symm, this.2.symm⟩
  · have e := (Int.fdiv_fmod_unique (a := -a) (b := -b) (r := -r) (q := q) (by omega)).2 ⟨by rw [Int.neg_mul, Int.mul_comm b q]; omega, by omega, by omega⟩
    have e1 := e.1
    rw [Int.neg_fdiv_neg] at e1
    have e2 := Int.mul_fdiv_add_fmod a b
    rw [e1, Int.mul_comm b q] at e2
    exact ⟨e1.symm, by omega⟩

theorem floor_zero (a : Int) (w : World) :
    Calls Try.prog 15 #[.int .i64 a, .int .i64 0] w fun e w' => e = .returned (.tuple #[.int .i64 0, .int .i64 0, .int .i64 11]) ∧ w = w' := by
  go_enter Try.func15, Try.ntmps15
  go_wp2
  go_returns
  exact ⟨rfl, rfl⟩
theorem floor_over (w : World) :
    Calls Try.prog 15 #[.int .i64 (-9223372036854775808), .int .i64 (-1)] w fun e w' => e = .returned (.tuple #[.int .i64 0, .int .i64 0, .int .i64 10]) ∧ w = w' := by
  go_enter Try.func15, Try.ntmps15
  go_wp2
  go_returns
  exact ⟨rfl, rfl⟩

theorem floor_pos (a b : Int) (w : World) (ha1 : 0 ≤ a) (ha2 : a ≤ 9223372036854775807) (hb1 : 1 ≤ b) (hb2 : b ≤ 9223372036854775807) :
    Calls Try.prog 15 #[.int .i64 a, .int .i64 b] w fun e w' => e = .returned (.tuple #[.int .i64 (a.fdiv b), .int .i64 (a.fmod b), .int .i64 0]) ∧ ∃ n, w' = w.drewN n := by
  have U := Lib.hid (fl_unique (a := a) (b := b) (q := a / b) (r := a % b) (by rw [Int.mul_comm]; exact Int.mul_ediv_add_emod a b) (.inl ⟨by omega, Int.emod_nonneg _ (by omega), Int.emod_lt_of_pos _ (by omega)⟩))
  have n1 : 0 ≤ a % b := Int.emod_nonneg _ (by omega)
  have n2 : a % b < b := Int.emod_lt_of_pos _ (by omega)
  have m1 : 0 ≤ a / b := Int.ediv_nonneg (by omega) (by omega)
  have m2 : a / b ≤ a := Int.ediv_le_self _ (by omega)
  by_cases c : a % b = 0
  · have c' := Lib.hid c
    have d1 : (a % b != 0) = false := by rw [c]; rfl
    clear c
    go_enter Try.func15, Try.ntmps15
    go_wp2
    go_quiet (fail)
    go_wp2
    go_returns
    exact ⟨ret_int3 U.out.1 U.out.2 rfl, _, rfl⟩
  · have d0 : 0 < a % b := by omega
    have d1 : (a % b != 0) = true := by simpa using c
    have d2 : decide (a % b < 0) = false := by simp; omega
    have d3 : decide (b < 0) = false := by simp; omega
    clear c
    go_enter Try.func15, Try.ntmps15
    go_wp2
    go_quiet (fail)
    go_wp2
    go_returns
    exact ⟨ret_int3 U.out.1 U.out.2 rfl, _, rfl⟩


theorem floor_gen (a b : Int) (w : World) (ha1 : -9223372036854775808 ≤ a) (ha2 : a ≤ 9223372036854775807) (hb1 : -9223372036854775808 ≤ b) (hb2 : b ≤ 9223372036854775807)
    (h0 : b ≠ 0) (hno : ¬ (a = -9223372036854775808 ∧ b = -1)) (hneg : a < 0 ∨ b < 0) :
    Calls Try.prog 15 #[.int .i64 a, .int .i64 b] w fun e w' => e = .returned (.tuple #[.int .i64 (a.fdiv b), .int .i64 (a.fmod b), .int .i64 0]) ∧ ∃ n, w' = w.drewN n := by
  have hm := Int.mul_tdiv_add_tmod a b
  rw [Int.mul_comm] at hm
  have q1 := Int.natAbs_tdiv_le_natAbs a b
  have r1 : (a.tmod b).natAbs < b.natAbs := by rw [Int.natAbs_tmod]; exact Nat.mod_lt _ (by omega)
  have s1 : 0 ≤ a → 0 ≤ a.tmod b := fun h => Int.tmod_nonneg b h
  have s2 : a ≤ 0 → a.tmod b ≤ 0 := fun h => by have := Int.tmod_nonneg b (show 0 ≤ -a by omega); rw [Int.neg_tmod] at this; omega
  have qq : a.tdiv b ≤ 9223372036854775807 := by
    by_cases e : a = -9223372036854775808
    · have hb : b ≠ -1 := fun h => hno ⟨e, h⟩
      have hd := Int.natAbs_tdiv a b
      by_cases hb1 : b = 1
      · rw [hb1, Int.tdiv_one]; omega
      · have h2 : 2 ≤ b.natAbs := by omega
        have h3 : a.natAbs.div b.natAbs ≤ a.natAbs / 2 := Nat.div_le_div_left h2 (by omega)
        omega
    · omega
  have qb1 : -9223372036854775808 ≤ a.tdiv b := by omega
  have z0 : (b == 0) = false := by simpa using h0
  have qs : a.tmod b = 0 ∨ -9223372036854775807 ≤ a.tdiv b := by
    by_cases e : a.tmod b = 0
    · exact .inl e
    · right
      by_cases hb : a.tdiv b = -9223372036854775808
      · exfalso
        have hab : a.natAbs = 9223372036854775808 := by omega
        have ha : a = -9223372036854775808 := by omega
        have hd := Int.natAbs_tdiv a b
        by_cases hb1 : b.natAbs = 1
        · have : b = 1 ∨ b = -1 := by omega
          rcases this with h | h
          · rw [h] at e; simp at e
          · rw [h] at e; simp at e
        · have h2 : 2 ≤ b.natAbs := by omega
          have h3 : a.natAbs.div b.natAbs ≤ a.natAbs / 2 := Nat.div_le_div_left h2 (by omega)
          omega
      · omega
  have z0 : (b == 0) = false := by simpa using h0
  have z1 : (a == -9223372036854775808) = false ∨ (a == -9223372036854775808) = true ∧ (b == -1) = false := by
    by_cases e : a = -9223372036854775808
    · right; exact ⟨by simpa using e, by simp; omega⟩
    · left; simpa using e
  have FU := Lib.hid (fun q r => @fl_unique a b q r)
  have HM := Lib.hid hm
  have S1 := Lib.hid s1
  have S2 := Lib.hid s2
  clear q1 hm hno s1 s2 hneg
  by_cases c : a.tmod b = 0
  · have U := Lib.hid (FU.out (a.tdiv b) (a.tmod b) HM.out (by omega))
    have d1 : (a.tmod b != 0) = false := by rw [c]; rfl
    clear c qs FU
    rcases z1 with z1 | ⟨z1, z2⟩
    all_goals
      go_enter Try.func15, Try.ntmps15
      go_wp2
      go_quiet (fail)
      go_wp2
      go_returns
      exact ⟨ret_int3 U.out.1 U.out.2 rfl, _, rfl⟩
  · have d1 : (a.tmod b != 0) = true := by simpa using c
    have qs' := qs.resolve_left c
    by_cases cr : a.tmod b < 0 <;> by_cases cb : b < 0
    · have U := Lib.hid (FU.out (a.tdiv b) (a.tmod b) HM.out (by omega))
      have d2 : decide (a.tmod b < 0) = true := by simpa using cr
      have d3 : decide (b < 0) = true := by simpa using cb
      clear c qs FU
      rcases z1 with z1 | ⟨z1, z2⟩
      all_goals
        go_enter Try.func15, Try.ntmps15
        go_wp2
        go_quiet (fail)
        go_wp2
        go_returns
        exact ⟨ret_int3 U.out.1 U.out.2 rfl, _, rfl⟩
    · have U := Lib.hid (FU.out (a.tdiv b - 1) (a.tmod b + b) (by have := HM.out; rw [Int.sub_mul]; omega) (by omega))
      have d2 : decide (a.tmod b < 0) = true := by simpa using cr
      have d3 : decide (b < 0) = false := by simpa using cb
      clear c qs FU
      rcases z1 with z1 | ⟨z1, z2⟩
      all_goals
        go_enter Try.func15, Try.ntmps15
        go_wp2
        go_quiet (fail)
        go_wp2
        go_returns
        exact ⟨ret_int3 U.out.1 U.out.2 rfl, _, rfl⟩
    · have U := Lib.hid (FU.out (a.tdiv b - 1) (a.tmod b + b) (by have := HM.out; rw [Int.sub_mul]; omega) (by omega))
      have d2 : decide (a.tmod b < 0) = false := by simpa using cr
      have d3 : decide (b < 0) = true := by simpa using cb
      clear c qs FU
      rcases z1 with z1 | ⟨z1, z2⟩
      all_goals
        go_enter Try.func15, Try.ntmps15
        go_wp2
        go_quiet (fail)
        go_wp2
        go_returns
        exact ⟨ret_int3 U.out.1 U.out.2 rfl, _, rfl⟩
    · have U := Lib.hid (FU.out (a.tdiv b) (a.tmod b) HM.out (by omega))
      have d2 : decide (a.tmod b < 0) = false := by simpa using cr
      have d3 : decide (b < 0) = false := by simpa using cb
      clear c qs FU
      rcases z1 with z1 | ⟨z1, z2⟩
      all_goals
        go_enter Try.func15, Try.ntmps15
        go_wp2
        go_quiet (fail)
        go_wp2
        go_returns
        exact ⟨ret_int3 U.out.1 U.out.2 rfl, _, rfl⟩
end Go.Proofs.Ytplbdfdpcgmcjaa
