/- Contracts: the document's below and sum of two bounds. -/
import Derived.Test.YtnhbinghinlhgaaC
import Derived.Test.YtnhbinghinlhgaaW1
namespace Go.Proofs.Ytnhbinghinlhgaa
set_option linter.unusedVariables false
set_option linter.unusedSimpArgs false
open Go.ChangeShapes Go.WideShapes Go.ChangeAt Go.RowKit
theorem below_enc (a b : Bd) (w : World) :
    Calls Try.prog 31 #[.agg #[.int .i8 (infOf a), .int .i64 (numOf a)], .agg #[.int .i8 (infOf b), .int .i64 (numOf b)]] w fun e w' => e = .returned (.bool (Bd.lt a b)) ∧ Below w.heap.size w w' := by
  cases a <;> cases b <;> simp only [infOf, numOf, Bd.lt]
  all_goals
    go_enter Try.func31, Try.ntmps31
    go_wp2
    go_returns
    exact ⟨rfl, by go_grown⟩
theorem rsum_enc (a b : Bd) (h : Bd.within 9000000000000000000 (Bd.add a b)) (w : World) :
    Calls Try.prog 40 #[.agg #[.int .i8 (infOf a), .int .i64 (numOf a)], .agg #[.int .i8 (infOf b), .int .i64 (numOf b)]] w fun e w' => e = .returned (.agg #[.int .i8 (infOf (Bd.add a b)), .int .i64 (numOf (Bd.add a b))]) ∧ Below w.heap.size w w' := by
  cases a <;> cases b <;> simp only [infOf, numOf, Bd.add] at *
  case some.some x y =>
    obtain ⟨h1, h2⟩ : -9000000000000000000 ≤ x + y ∧ x + y ≤ 9000000000000000000 := h
    go_enter Try.func40, Try.ntmps40
    go_wp2
    refine bodyPost_ret (v := .agg #[.int .i8 0, .int .i64 (x + y)]) (by simp [results, Try.results40, go_sem]) rfl ⟨rfl, ?_⟩
    go_grown
  all_goals
    clear h
    go_enter Try.func40, Try.ntmps40
    go_wp2
    refine bodyPost_ret (v := .agg #[.int .i8 1, .int .i64 0]) (by simp [results, Try.results40, go_sem]) rfl ⟨rfl, ?_⟩
    go_grown
end Go.Proofs.Ytnhbinghinlhgaa
