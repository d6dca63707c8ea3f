/- Contracts of the document's own answer for layer 1: Add, Sub. -/
import Derived.Test.YtplbdfdpcgmcjaaRefC
namespace Go.Proofs.Ytplbdfdpcgmcjaa
set_option linter.unusedVariables false
set_option linter.unusedSimpArgs false
open Go.ChangeShapes Go.WideShapes Go.ChangeAt Go.RowKit
open Long (dig)

theorem of_is (a : Int) (s : Bool) (n : Nat) (w : World) (ha1 : -9223372036854775808 ≤ a) (ha2 : a ≤ 9223372036854775807) (hs : decide (a < 0) = s) (hn : a.natAbs = n) :
    Calls Try.prog 32 #[.int .i64 a] w fun e w' => e = .returned (.agg #[.bool s, .int .u32 (dig n 0 : Nat), .int .u32 (dig n 1 : Nat), .int .u32 (dig n 2 : Nat), .int .u32 (dig n 3 : Nat), .int .u32 (dig n 4 : Nat), .int .u32 (dig n 5 : Nat), .int .u32 (dig n 6 : Nat), .int .u32 (dig n 7 : Nat), .int .u32 (dig n 8 : Nat)]) ∧ Below w.heap.size w w' := by
  have h := of_any a w ha1 ha2
  rw [hs, hn] at h
  exact h
theorem num_neg (n : Nat) (w : World) (h : n ≤ 9223372036854775808) :
    Calls Try.prog 30 #[.agg #[.bool true, .int .u32 (dig n 0 : Nat), .int .u32 (dig n 1 : Nat), .int .u32 (dig n 2 : Nat), .int .u32 (dig n 3 : Nat), .int .u32 (dig n 4 : Nat), .int .u32 (dig n 5 : Nat), .int .u32 (dig n 6 : Nat), .int .u32 (dig n 7 : Nat), .int .u32 (dig n 8 : Nat)]] w fun e w' => e = .returned (.tuple #[.int .i64 (-(n : Int)), .int .i64 0]) ∧ Below w.heap.size w w' := by
  have r := number_any true n w (by omega)
  rw [numE_neg n h] at r
  exact r
theorem num_pos (n : Nat) (w : World) (h : n ≤ 9223372036854775807) :
    Calls Try.prog 30 #[.agg #[.bool false, .int .u32 (dig n 0 : Nat), .int .u32 (dig n 1 : Nat), .int .u32 (dig n 2 : Nat), .int .u32 (dig n 3 : Nat), .int .u32 (dig n 4 : Nat), .int .u32 (dig n 5 : Nat), .int .u32 (dig n 6 : Nat), .int .u32 (dig n 7 : Nat), .int .u32 (dig n 8 : Nat)]] w fun e w' => e = .returned (.tuple #[.int .i64 n, .int .i64 0]) ∧ Below w.heap.size w w' := by
  have r := number_any false n w (by omega)
  rw [numE_pos n h] at r
  exact r
theorem num_over (s : Bool) (n : Nat) (w : World) (h : 9223372036854775808 < n ∨ s = false ∧ n = 9223372036854775808) (h2 : n < 22300745198530623141535718272648361505980416) :
    Calls Try.prog 30 #[.agg #[.bool s, .int .u32 (dig n 0 : Nat), .int .u32 (dig n 1 : Nat), .int .u32 (dig n 2 : Nat), .int .u32 (dig n 3 : Nat), .int .u32 (dig n 4 : Nat), .int .u32 (dig n 5 : Nat), .int .u32 (dig n 6 : Nat), .int .u32 (dig n 7 : Nat), .int .u32 (dig n 8 : Nat)]] w fun e w' => e = .returned (.tuple #[.int .i64 0, .int .i64 10]) ∧ Below w.heap.size w w' := by
  have r := number_any s n w h2
  rcases h with h | ⟨rfl, rfl⟩
  · rw [numE_over s n h] at r
    exact r
  · rw [numE_least] at r
    exact r

/-- What a sum of long numbers of two numbers says, and what number makes of it. -/
structure Summed (s t : Bool) (n m : Nat) (r : Ending) : Prop where
  go : ∃ (u : Bool) (k : Nat), (∀ w, Calls Try.prog 31 #[.agg #[.bool s, .int .u32 (dig n 0 : Nat), .int .u32 (dig n 1 : Nat), .int .u32 (dig n 2 : Nat), .int .u32 (dig n 3 : Nat), .int .u32 (dig n 4 : Nat), .int .u32 (dig n 5 : Nat), .int .u32 (dig n 6 : Nat), .int .u32 (dig n 7 : Nat), .int .u32 (dig n 8 : Nat)], .agg #[.bool t, .int .u32 (dig m 0 : Nat), .int .u32 (dig m 1 : Nat), .int .u32 (dig m 2 : Nat), .int .u32 (dig m 3 : Nat), .int .u32 (dig m 4 : Nat), .int .u32 (dig m 5 : Nat), .int .u32 (dig m 6 : Nat), .int .u32 (dig m 7 : Nat), .int .u32 (dig m 8 : Nat)]] w fun e w' => e = .returned (.agg #[.bool u, .int .u32 (dig k 0 : Nat), .int .u32 (dig k 1 : Nat), .int .u32 (dig k 2 : Nat), .int .u32 (dig k 3 : Nat), .int .u32 (dig k 4 : Nat), .int .u32 (dig k 5 : Nat), .int .u32 (dig k 6 : Nat), .int .u32 (dig k 7 : Nat), .int .u32 (dig k 8 : Nat)]) ∧ Below w.heap.size w w') ∧
    (∀ w, Calls Try.prog 30 #[.agg #[.bool u, .int .u32 (dig k 0 : Nat), .int .u32 (dig k 1 : Nat), .int .u32 (dig k 2 : Nat), .int .u32 (dig k 3 : Nat), .int .u32 (dig k 4 : Nat), .int .u32 (dig k 5 : Nat), .int .u32 (dig k 6 : Nat), .int .u32 (dig k 7 : Nat), .int .u32 (dig k 8 : Nat)]] w fun e w' => e = r ∧ Below w.heap.size w w')

theorem summed_ok (a b : Int) (ha1 : -9223372036854775808 ≤ a) (ha2 : a ≤ 9223372036854775808) (hb1 : -9223372036854775808 ≤ b) (hb2 : b ≤ 9223372036854775808)
    (s t : Bool) (n m : Nat) (hs : s = true → a ≤ 0) (hs' : s = false → 0 ≤ a) (ht : t = true → b ≤ 0) (ht' : t = false → 0 ≤ b) (hn : a.natAbs = n) (hm : b.natAbs = m)
    (h1 : -9223372036854775808 ≤ a + b) (h2 : a + b ≤ 9223372036854775807) : Summed s t n m (.returned (.tuple #[.int .i64 (a + b), .int .i64 0])) := by
  cases s <;> cases t
  · have p := hs' rfl
    have q := ht' rfl
    refine ⟨false, n + m, fun w => sum_same false n m w, fun w => ?_⟩
    have r := num_pos (n + m) w (by omega)
    rw [show (((n + m : Nat) : Int)) = a + b by omega] at r
    exact r
  · have p := hs' rfl
    have q := ht rfl
    by_cases c : m ≤ n
    · obtain ⟨d, hd⟩ := Nat.exists_eq_add_of_le c
      refine ⟨false, d, fun w => by rw [hd]; exact sum_ge false true m d w rfl (by omega), fun w => ?_⟩
      have r := num_pos d w (by omega)
      rw [show ((d : Nat) : Int) = a + b by omega] at r
      exact r
    · obtain ⟨d, hd⟩ := Nat.exists_eq_add_of_le (show n ≤ m by omega)
      refine ⟨true, d, fun w => by rw [hd]; exact sum_lt false true n d w rfl (by omega) (by omega), fun w => ?_⟩
      have r := num_neg d w (by omega)
      rw [show -((d : Nat) : Int) = a + b by omega] at r
      exact r
  · have p := hs rfl
    have q := ht' rfl
    by_cases c : m ≤ n
    · obtain ⟨d, hd⟩ := Nat.exists_eq_add_of_le c
      refine ⟨true, d, fun w => by rw [hd]; exact sum_ge true false m d w rfl (by omega), fun w => ?_⟩
      have r := num_neg d w (by omega)
      rw [show -((d : Nat) : Int) = a + b by omega] at r
      exact r
    · obtain ⟨d, hd⟩ := Nat.exists_eq_add_of_le (show n ≤ m by omega)
      refine ⟨false, d, fun w => by rw [hd]; exact sum_lt true false n d w rfl (by omega) (by omega), fun w => ?_⟩
      have r := num_pos d w (by omega)
      rw [show ((d : Nat) : Int) = a + b by omega] at r
      exact r
  · have p := hs rfl
    have q := ht rfl
    refine ⟨true, n + m, fun w => sum_same true n m w, fun w => ?_⟩
    have r := num_neg (n + m) w (by omega)
    rw [show -(((n + m : Nat) : Int)) = a + b by omega] at r
    exact r

theorem ov {n : Nat} (h : 9223372036854775808 ≤ n) : 9223372036854775808 < n ∨ false = false ∧ n = 9223372036854775808 := by
  rcases (show 9223372036854775808 < n ∨ n = 9223372036854775808 by omega) with c | c
  · exact .inl c
  · exact .inr ⟨rfl, c⟩
theorem summed_over (a b : Int) (ha1 : -9223372036854775808 ≤ a) (ha2 : a ≤ 9223372036854775808) (hb1 : -9223372036854775808 ≤ b) (hb2 : b ≤ 9223372036854775808)
    (s t : Bool) (n m : Nat) (hs : s = true → a ≤ 0) (hs' : s = false → 0 ≤ a) (ht : t = true → b ≤ 0) (ht' : t = false → 0 ≤ b) (hn : a.natAbs = n) (hm : b.natAbs = m)
    (h : a + b < -9223372036854775808 ∨ 9223372036854775807 < a + b) : Summed s t n m (.returned (.tuple #[.int .i64 0, .int .i64 10])) := by
  cases s <;> cases t
  · have p := hs' rfl
    have q := ht' rfl
    exact ⟨false, n + m, fun w => sum_same false n m w, fun w => num_over false (n + m) w (ov (by omega)) (by omega)⟩
  · have p := hs' rfl
    have q := ht rfl
    obtain ⟨d, hd⟩ := Nat.exists_eq_add_of_le (show m ≤ n by omega)
    exact ⟨false, d, fun w => by rw [hd]; exact sum_ge false true m d w rfl (by omega), fun w => num_over false d w (ov (by omega)) (by omega)⟩
  · have p := hs rfl
    have q := ht' rfl
    obtain ⟨d, hd⟩ := Nat.exists_eq_add_of_le (show n ≤ m by omega)
    exact ⟨false, d, fun w => by rw [hd]; exact sum_lt true false n d w rfl (by omega) (by omega), fun w => num_over false d w (ov (by omega)) (by omega)⟩
  · have p := hs rfl
    have q := ht rfl
    exact ⟨true, n + m, fun w => sum_same true n m w, fun w => num_over true (n + m) w (by omega) (by omega)⟩

set_option maxHeartbeats 2000000 in
theorem radd_go (a b : Int) (w : World) (ha1 : -9223372036854775808 ≤ a) (ha2 : a ≤ 9223372036854775807) (hb1 : -9223372036854775808 ≤ b) (hb2 : b ≤ 9223372036854775807) (x y : Int)
    (S : Summed (decide (a < 0)) (decide (b < 0)) a.natAbs b.natAbs (.returned (.tuple #[.int .i64 x, .int .i64 y]))) :
    Calls Try.prog 10 #[.int .i64 a, .int .i64 b] w fun e w' => e = .returned (.tuple #[.int .i64 x, .int .i64 y]) ∧ Below w.heap.size w w' := by
  obtain ⟨u, k, S1, S2⟩ := S.go
  have A := Lib.hid (fun w => of_any a w ha1 ha2)
  have B := Lib.hid (fun w => of_any b w hb1 hb2)
  have S1 := Lib.hid S1
  have S2 := Lib.hid S2
  go_enter Try.func10, Try.ntmps10
  go_wp2_with (first
    | (go_at_call 32; (with_reducible refine (A.out _).mono ?_); rintro e w1 ⟨rfl, hb1⟩; have H1 := Lib.hid hb1; clear hb1)
    | (go_at_call 32; (with_reducible refine (B.out _).mono ?_); rintro e w2 ⟨rfl, hb2⟩; have H2 := Lib.hid hb2; clear hb2)
    | (go_at_call 31; (with_reducible refine (S1.out _).mono ?_); rintro e w3 ⟨rfl, hb3⟩; have H3 := Lib.hid hb3; clear hb3)
    | (go_at_call 30; (with_reducible refine (S2.out _).mono ?_); rintro e w4 ⟨rfl, hb4⟩; have H4 := Lib.hid hb4; clear hb4))
  go_returns
  exact ⟨rfl, below_on (below_on (below_on H1.out (Nat.le_refl _) H2.out) (Nat.le_refl _) H3.out) (Nat.le_refl _) H4.out⟩

theorem radd_any (a b : Int) (ha1 : -9223372036854775808 ≤ a) (ha2 : a ≤ 9223372036854775807) (hb1 : -9223372036854775808 ≤ b) (hb2 : b ≤ 9223372036854775807) :
    (∀ w, -9223372036854775808 ≤ a + b → a + b ≤ 9223372036854775807 → Calls Try.prog 10 #[.int .i64 a, .int .i64 b] w fun e w' => e = .returned (.tuple #[.int .i64 (a + b), .int .i64 0]) ∧ Below w.heap.size w w') ∧
    (∀ w, (a + b < -9223372036854775808 ∨ 9223372036854775807 < a + b) → Calls Try.prog 10 #[.int .i64 a, .int .i64 b] w fun e w' => e = .returned (.tuple #[.int .i64 0, .int .i64 10]) ∧ Below w.heap.size w w') := by
  have sa : decide (a < 0) = true → a ≤ 0 := fun h => by simp at h; omega
  have sa' : decide (a < 0) = false → 0 ≤ a := fun h => by simp at h; omega
  have sb : decide (b < 0) = true → b ≤ 0 := fun h => by simp at h; omega
  have sb' : decide (b < 0) = false → 0 ≤ b := fun h => by simp at h; omega
  exact ⟨fun w h1 h2 => radd_go a b w ha1 ha2 hb1 hb2 _ _ (summed_ok a b ha1 (by omega) hb1 (by omega) _ _ _ _ sa sa' sb sb' rfl rfl h1 h2),
    fun w h => radd_go a b w ha1 ha2 hb1 hb2 _ _ (summed_over a b ha1 (by omega) hb1 (by omega) _ _ _ _ sa sa' sb sb' rfl rfl h)⟩
end Go.Proofs.Ytplbdfdpcgmcjaa
