/- Contracts of the functions of package safe that networks call. -/
import Derived.Test.YtnhbinghinlhgaaRows
import Derived.WalkKit
import Derived.ProofKit
import Derived.OpenShut
import Derived.Outline
import Derived.Handy
import Derived.Deep.QuietTactic
import Derived.BigQuiet
import Derived.Lib.Mul64
import Derived.Laws.Bits64b
import Derived.WalkMore
import Derived.ScopeJumps
import Derived.Lib.Hide
import Derived.Deep.DeepFit
namespace Go.Proofs.Ytnhbinghinlhgaa
set_option linter.unusedVariables false
open Go.ChangeShapes Go.WideShapes Go.ChangeAt Go.RowKit

theorem ret_int {k : IntKind} {a b : Int} (h : a = b) : Ending.returned (.int k a) = .returned (.int k b) := by rw [h]
theorem ret_int2 {k l : IntKind} {a b c d : Int} (h : a = b) (h' : c = d) : Ending.returned (.tuple #[.int k a, .int l c]) = .returned (.tuple #[.int k b, .int l d]) := by rw [h, h']
theorem ret_int3 {k l m : IntKind} {a b c d f g : Int} (h : a = b) (h' : c = d) (h'' : f = g) : Ending.returned (.tuple #[.int k a, .int l c, .int m f]) = .returned (.tuple #[.int k b, .int l d, .int m g]) := by rw [h, h', h'']

theorem add_ok (a b : Int) (w : World) (ha1 : -9223372036854775808 ≤ a) (ha2 : a ≤ 9223372036854775807) (hb1 : -9223372036854775808 ≤ b) (hb2 : b ≤ 9223372036854775807)
    (h1 : -9223372036854775808 ≤ a + b) (h2 : a + b ≤ 9223372036854775807) :
    Calls Try.prog 39 #[.int .i64 a, .int .i64 b] w fun e w' => e = .returned (.tuple #[.int .i64 (a + b), .int .i64 0]) ∧ w = w' := by
  go_each [a < 0, b < 0, a + b < 0] => (go_enter Try.func39, Try.ntmps39; go_wp2; go_ret2; exact ⟨rfl, rfl⟩)

theorem add_over (a b : Int) (w : World) (ha1 : -9223372036854775808 ≤ a) (ha2 : a ≤ 9223372036854775807) (hb1 : -9223372036854775808 ≤ b) (hb2 : b ≤ 9223372036854775807)
    (h : a + b < -9223372036854775808 ∨ 9223372036854775807 < a + b) :
    Calls Try.prog 39 #[.int .i64 a, .int .i64 b] w fun e w' => e = .returned (.tuple #[.int .i64 0, .int .i64 10]) ∧ w = w' := by
  rcases h with h | h
  · have ca : a < 0 := by omega
    have cb : b < 0 := by omega
    have cs : ¬ wrap64 (a + b) < 0 := by unfold wrap64; omega
    go_enter Try.func39, Try.ntmps39
    go_wp2
    go_ret2
    exact ⟨rfl, rfl⟩
  · have ca : ¬ a < 0 := by omega
    have cb : ¬ b < 0 := by omega
    have cs : wrap64 (a + b) < 0 := by unfold wrap64; omega
    go_enter Try.func39, Try.ntmps39
    go_wp2
    go_ret2
    exact ⟨rfl, rfl⟩

theorem sub_ok (a b : Int) (w : World) (ha1 : -9223372036854775808 ≤ a) (ha2 : a ≤ 9223372036854775807) (hb1 : -9223372036854775808 ≤ b) (hb2 : b ≤ 9223372036854775807)
    (h1 : -9223372036854775808 ≤ a - b) (h2 : a - b ≤ 9223372036854775807) :
    Calls Try.prog 35 #[.int .i64 a, .int .i64 b] w fun e w' => e = .returned (.tuple #[.int .i64 (a - b), .int .i64 0]) ∧ w = w' := by
  go_each [a < 0, b < 0, a - b < 0] => (go_enter Try.func35, Try.ntmps35; go_wp2; go_ret2; exact ⟨rfl, rfl⟩)

theorem sub_over (a b : Int) (w : World) (ha1 : -9223372036854775808 ≤ a) (ha2 : a ≤ 9223372036854775807) (hb1 : -9223372036854775808 ≤ b) (hb2 : b ≤ 9223372036854775807)
    (h : a - b < -9223372036854775808 ∨ 9223372036854775807 < a - b) :
    Calls Try.prog 35 #[.int .i64 a, .int .i64 b] w fun e w' => e = .returned (.tuple #[.int .i64 0, .int .i64 10]) ∧ w = w' := by
  rcases h with h | h
  · have ca : a < 0 := by omega
    have cb : ¬ b < 0 := by omega
    have cs : ¬ wrap64 (a - b) < 0 := by unfold wrap64; omega
    go_enter Try.func35, Try.ntmps35
    go_wp2
    go_ret2
    exact ⟨rfl, rfl⟩
  · have ca : ¬ a < 0 := by omega
    have cb : b < 0 := by omega
    have cs : wrap64 (a - b) < 0 := by unfold wrap64; omega
    go_enter Try.func35, Try.ntmps35
    go_wp2
    go_ret2
    exact ⟨rfl, rfl⟩

def rightB (i n : Int) : Bool := i == 0 || (i == 1 || i == -1) && n == 0
theorem ret_bool {a b : Bool} (h : a = b) : Ending.returned (.bool a) = .returned (.bool b) := by rw [h]

theorem right_any (i n : Int) (w : World) :
    Calls Try.prog 33 #[.agg #[.int .i8 i, .int .i64 n]] w fun e w' => e = .returned (.bool (rightB i n)) ∧ w.alloc (.cells #[.int .i8 i, .int .i64 n] 26) = w' := by
  by_cases c0 : i = 0
  · subst c0
    go_enter Try.func33, Try.ntmps33
    go_wp2
    go_ret
    exact ⟨ret_bool (by simp [rightB]), rfl⟩
  · by_cases c1 : i = 1
    · subst c1
      go_enter Try.func33, Try.ntmps33
      go_wp2
      go_ret
      exact ⟨ret_bool (by simp [rightB]), rfl⟩
    · by_cases c2 : i = -1
      · subst c2
        go_enter Try.func33, Try.ntmps33
        go_wp2
        go_ret
        exact ⟨ret_bool (by simp [rightB]), rfl⟩
      · go_enter Try.func33, Try.ntmps33
        go_wp2
        go_ret
        exact ⟨ret_bool (by simp [rightB, c0, c1, c2]), rfl⟩
theorem right_yes (i n : Int) (w : World) (h : rightB i n = true) :
    Calls Try.prog 33 #[.agg #[.int .i8 i, .int .i64 n]] w fun e w' => e = .returned (.bool true) ∧ w.alloc (.cells #[.int .i8 i, .int .i64 n] 26) = w' := by
  have r := right_any i n w
  rw [h] at r
  exact r
theorem right_no (i n : Int) (w : World) (h : rightB i n = false) :
    Calls Try.prog 33 #[.agg #[.int .i8 i, .int .i64 n]] w fun e w' => e = .returned (.bool false) ∧ w.alloc (.cells #[.int .i8 i, .int .i64 n] 26) = w' := by
  have r := right_any i n w
  rw [h] at r
  exact r
theorem rightB_iff (i n : Int) : rightB i n = true ↔ i = 0 ∨ (i = 1 ∨ i = -1) ∧ n = 0 := by simp [rightB]

theorem sum_zz_ok (n m : Int) (w : World) (hn1 : -9223372036854775808 ≤ n) (hn2 : n ≤ 9223372036854775807) (hm1 : -9223372036854775808 ≤ m) (hm2 : m ≤ 9223372036854775807) (h1 : -9223372036854775808 ≤ n + m) (h2 : n + m ≤ 9223372036854775807) :
    Calls Try.prog 37 #[.agg #[.int .i8 0, .int .i64 n], .agg #[.int .i8 0, .int .i64 m]] w fun e w' => e = .returned (.tuple #[.agg #[.int .i8 0, .int .i64 (n + m)], .int .i64 0]) ∧ Below w.heap.size w w' := by
  have R := Lib.hid (show rightB 0 n = true by simp [rightB])
  have R2 := Lib.hid (show rightB 0 m = true by simp [rightB])
  go_enter Try.func37, Try.ntmps37
  go_wp2_with (first | (go_at_call 33; (with_reducible refine (right_yes _ _ _ (by first | exact R.out | exact R2.out)).mono ?_); rintro e w' ⟨rfl, rfl⟩) | (go_at_call 39; (with_reducible refine (add_ok _ _ _ (by omega) (by omega) (by omega) (by omega) (by omega) (by omega)).mono ?_); rintro e w' ⟨rfl, rfl⟩))
  go_returns
  exact ⟨rfl, by go_grown⟩

theorem sum_zp (n : Int) (w : World) :
    Calls Try.prog 37 #[.agg #[.int .i8 0, .int .i64 n], .agg #[.int .i8 1, .int .i64 0]] w fun e w' => e = .returned (.tuple #[.agg #[.int .i8 1, .int .i64 0], .int .i64 0]) ∧ Below w.heap.size w w' := by
  have R := Lib.hid (show rightB 0 n = true by simp [rightB])
  have R2 := Lib.hid (show rightB 1 0 = true by simp [rightB])
  go_enter Try.func37, Try.ntmps37
  go_wp2_with (first | (go_at_call 33; (with_reducible refine (right_yes _ _ _ (by first | exact R.out | exact R2.out)).mono ?_); rintro e w' ⟨rfl, rfl⟩))
  go_returns
  exact ⟨rfl, by go_grown⟩

theorem sum_pz (m : Int) (w : World) :
    Calls Try.prog 37 #[.agg #[.int .i8 1, .int .i64 0], .agg #[.int .i8 0, .int .i64 m]] w fun e w' => e = .returned (.tuple #[.agg #[.int .i8 1, .int .i64 0], .int .i64 0]) ∧ Below w.heap.size w w' := by
  have R := Lib.hid (show rightB 1 0 = true by simp [rightB])
  have R2 := Lib.hid (show rightB 0 m = true by simp [rightB])
  go_enter Try.func37, Try.ntmps37
  go_wp2_with (first | (go_at_call 33; (with_reducible refine (right_yes _ _ _ (by first | exact R.out | exact R2.out)).mono ?_); rintro e w' ⟨rfl, rfl⟩))
  go_returns
  exact ⟨rfl, by go_grown⟩

theorem sum_pp (w : World) :
    Calls Try.prog 37 #[.agg #[.int .i8 1, .int .i64 0], .agg #[.int .i8 1, .int .i64 0]] w fun e w' => e = .returned (.tuple #[.agg #[.int .i8 1, .int .i64 0], .int .i64 0]) ∧ Below w.heap.size w w' := by
  have R := Lib.hid (show rightB 1 0 = true by simp [rightB])
  have R2 := Lib.hid (show rightB 1 0 = true by simp [rightB])
  go_enter Try.func37, Try.ntmps37
  go_wp2_with (first | (go_at_call 33; (with_reducible refine (right_yes _ _ _ (by first | exact R.out | exact R2.out)).mono ?_); rintro e w' ⟨rfl, rfl⟩))
  go_returns
  exact ⟨rfl, by go_grown⟩

def lessB (i n j m : Int) : Bool := rightB i n && rightB j m && (if i = j then decide (n < m) else decide (i < j))
theorem less_any (i n j m : Int) (w : World) :
    Calls Try.prog 29 #[.agg #[.int .i8 i, .int .i64 n], .agg #[.int .i8 j, .int .i64 m]] w fun e w' => e = .returned (.bool (lessB i n j m)) ∧ Below w.heap.size w w' := by
  by_cases r : rightB i n = false
  · have HL := Lib.hid (show lessB i n j m = false by simp [lessB, r])
    have R := Lib.hid r
    clear r
    go_enter Try.func29, Try.ntmps29
    go_wp2_with (first | (go_at_call 33; (with_reducible refine (right_no _ _ _ R.out).mono ?_); rintro e w' ⟨rfl, rfl⟩))
    go_returns
    exact ⟨ret_bool HL.out.symm, by go_grown⟩
  · by_cases r2 : rightB j m = false
    · have HL := Lib.hid (show lessB i n j m = false by simp [lessB, r2])
      have R := Lib.hid (show rightB i n = true by simpa using r)
      have R2 := Lib.hid r2
      clear r r2
      go_enter Try.func29, Try.ntmps29
      go_wp2_with (first | (go_at_call 33; (with_reducible refine (right_yes _ _ _ R.out).mono ?_); rintro e w' ⟨rfl, rfl⟩) | (go_at_call 33; (with_reducible refine (right_no _ _ _ R2.out).mono ?_); rintro e w' ⟨rfl, rfl⟩))
      go_returns
      exact ⟨ret_bool HL.out.symm, by go_grown⟩
    · have R := Lib.hid (show rightB i n = true by simpa using r)
      have R2 := Lib.hid (show rightB j m = true by simpa using r2)
      by_cases c : i = j
      · subst c
        have HL := Lib.hid (show lessB i n i m = decide (n < m) by simp [lessB, r, r2])
        clear r r2
        go_enter Try.func29, Try.ntmps29
        go_wp2_with (first | (go_at_call 33; (with_reducible refine (right_yes _ _ _ (by first | exact R.out | exact R2.out)).mono ?_); rintro e w' ⟨rfl, rfl⟩))
        go_returns
        exact ⟨ret_bool HL.out.symm, by go_grown⟩
      · have HL := Lib.hid (show lessB i n j m = decide (i < j) by simp [lessB, r, r2, c])
        clear r r2
        go_enter Try.func29, Try.ntmps29
        go_wp2_with (first | (go_at_call 33; (with_reducible refine (right_yes _ _ _ (by first | exact R.out | exact R2.out)).mono ?_); rintro e w' ⟨rfl, rfl⟩))
        go_returns
        exact ⟨ret_bool HL.out.symm, by go_grown⟩
end Go.Proofs.Ytnhbinghinlhgaa
