/- Networks in memory; contracts of what asks a bound: allowed. -/
import Derived.Test.YtnhbinghinlhgaaFn
import Derived.Test.YtnhbinghinlhgaaNets
namespace Go.Proofs.Ytnhbinghinlhgaa
set_option linter.unusedVariables false
set_option linter.unusedSimpArgs false
open Go.ChangeShapes Go.WideShapes Go.ChangeAt Go.RowKit

def infOf : Bd → Int
  | some _ => 0
  | none => 1
def numOf : Bd → Int
  | some a => a
  | none => 0
def encB (b : Bd) : Value := .agg #[.int .i8 (infOf b), .int .i64 (numOf b)]
theorem right_enc (b : Bd) : rightB (infOf b) (numOf b) = true := by cases b <;> simp [rightB, infOf, numOf]
theorem less_enc (a b : Bd) : lessB (infOf a) (numOf a) (infOf b) (numOf b) = Bd.lt a b := by
  unfold lessB
  rw [right_enc, right_enc]
  cases a <;> cases b <;> simp [infOf, numOf, Bd.lt]
  exact decide_eq_decide.2 Iff.rfl

def allowedB (i n : Int) : Bool := rightB i n && decide (0 ≤ i) && decide (-1125899906842624 ≤ n) && decide (n ≤ 1125899906842624)

theorem allowed_yes (i n : Int) (h : rightB i n = true) (h1 : 0 ≤ i) (h2 : -1125899906842624 ≤ n) (h3 : n ≤ 1125899906842624) (w : World) :
    Calls Try.prog 25 #[.agg #[.int .i8 i, .int .i64 n]] w fun e w' => e = .returned (.bool true) ∧ Below w.heap.size w w' := by
  have R := Lib.hid h
  clear h
  go_enter Try.func25, Try.ntmps25
  go_wp2_with (go_at_call 33; (with_reducible refine (right_yes _ _ _ R.out).mono ?_); rintro e w' ⟨rfl, rfl⟩)
  go_returns
  exact ⟨rfl, by go_grown⟩
end Go.Proofs.Ytnhbinghinlhgaa
