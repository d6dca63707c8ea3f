/- Plain arithmetic of the calendar: no Go in this text. -/
namespace Go.Proofs.YthkddellilhhaaaGreatDoor
namespace Cal
set_option linter.unusedVariables false
def leap (y : Int) : Bool := decide (y % 4 = 0 ∧ (y % 100 ≠ 0 ∨ y % 400 = 0))
/-- 1 in leap years, else 0. -/
def lp (y : Int) : Int := if y % 4 = 0 ∧ (y % 100 ≠ 0 ∨ y % 400 = 0) then 1 else 0
/-- Days before a month, 1 to 13, of a year that is no leap year. -/
def cum (m : Int) : Int := (367 * m - 362) / 12 - if 2 < m then 2 else 0
/-- Days before a month of a year. -/
def bef (y m : Int) : Int := (367 * m - 362) / 12 - if 2 < m then 2 - lp y else 0
def start (y : Int) : Int := (y + 10003) / 4 - (y + 10099) / 100 + (y + 10399) / 400 + (y + 10000) * 365 - 3652425 - 719528
def len (y m : Int) : Int := if 1 ≤ m ∧ m ≤ 12 then bef y (m + 1) - bef y m else 0
def num (y m d : Int) : Int := start y + bef y m + d - 1
def wd (n : Int) : Int := (n + 3) % 7 + 1

theorem lp_01 (y : Int) : 0 ≤ lp y ∧ lp y ≤ 1 := by unfold lp; split <;> omega
theorem lp_leap (y : Int) : lp y = if leap y = true then 1 else 0 := by
  unfold lp leap
  by_cases h : y % 4 = 0 ∧ (y % 100 ≠ 0 ∨ y % 400 = 0) <;> simp [h]
theorem start_succ (y : Int) : start (y + 1) = start y + 365 + lp y := by unfold start lp; split <;> omega
theorem start_mono (a b : Int) (h : a ≤ b) : start a + 365 * (b - a) ≤ start b := by unfold start; omega
theorem start_400 (y : Int) : start (y + 400) = start y + 146097 := by unfold start; omega
theorem lp_400 (y : Int) : lp (y + 400) = lp y := by unfold lp; congr 1; simp; omega
theorem bef_400 (y m : Int) : bef (y + 400) m = bef y m := by unfold bef; rw [lp_400]
theorem len_400 (y m : Int) : len (y + 400) m = len y m := by unfold len; rw [bef_400, bef_400]
theorem bef_one (y : Int) : bef y 1 = 0 := by unfold bef; omega
theorem bef_last (y : Int) : bef y 13 = 365 + lp y := by have := lp_01 y; unfold bef; simp; omega
theorem bef_bd (y m : Int) (h1 : 1 ≤ m) (h2 : m ≤ 13) : 0 ≤ bef y m ∧ bef y m ≤ 366 := by have := lp_01 y; unfold bef; split <;> omega
theorem bef_mono (y m k : Int) (h1 : 1 ≤ m) (h2 : m < k) (h3 : k ≤ 13) : bef y m + 28 ≤ bef y k := by
  have := lp_01 y
  unfold bef
  split <;> split <;> omega
theorem len_is (y m : Int) (h1 : 1 ≤ m) (h2 : m ≤ 12) : len y m = bef y (m + 1) - bef y m := by unfold len; rw [if_pos ⟨h1, h2⟩]
theorem len_out (y m : Int) (h : ¬ (1 ≤ m ∧ m ≤ 12)) : len y m = 0 := by unfold len; rw [if_neg h]
theorem len_bd (y m : Int) (h1 : 1 ≤ m) (h2 : m ≤ 12) : 28 ≤ len y m ∧ len y m ≤ 31 := by
  rw [len_is y m h1 h2]
  have := lp_01 y
  unfold bef
  split <;> split <;> omega
theorem start_bd (y : Int) (h1 : -9999 ≤ y) (h2 : y ≤ 10000) : -4371587 ≤ start y ∧ start y ≤ 2932897 := by unfold start; omega

/-- The first guess of the year of a day is that year, or one beside it. -/
theorem guess (n : Int) (h1 : -4371587 ≤ n) (h2 : n < 2932897) :
    start ((n + 719528 + 3652425) * 400 / 146097 - 10000 - 1) ≤ n ∧ n < start ((n + 719528 + 3652425) * 400 / 146097 - 10000 + 2) ∧
    -9999 ≤ (n + 719528 + 3652425) * 400 / 146097 - 10000 + 1 ∧ (n + 719528 + 3652425) * 400 / 146097 - 10000 ≤ 10000 := by
  unfold start
  omega

end Cal
end Go.Proofs.YthkddellilhhaaaGreatDoor
