/- Plain, Fn, Fn2, Fn3, Date, Date2, Nums in one. -/
import Derived.Test.YtllhcpkpbipjlaaDoorRows
import Derived.WalkKit
import Derived.ProofKit
import Derived.OpenShut
import Derived.Outline
import Derived.Handy
import Derived.Deep.QuietTactic
import Derived.BigQuiet
import Derived.Lib.Hide
import Derived.Deep.DeepFit
namespace Go.Proofs.YtllhcpkpbipjlaaDoor
set_option linter.unusedVariables false
open Go.ChangeShapes Go.WideShapes Go.ChangeAt Go.RowKit
namespace Cal
def leap (y : Int) : Bool := decide (y % 4 = 0 ∧ (y % 100 ≠ 0 ∨ y % 400 = 0))
/-- 1 in leap years, else 0. -/
def lp (y : Int) : Int := if y % 4 = 0 ∧ (y % 100 ≠ 0 ∨ y % 400 = 0) then 1 else 0
/-- Days before a month, 1 to 13, of a year that is no leap year. -/
def cum (m : Int) : Int := (367 * m - 362) / 12 - if 2 < m then 2 else 0
/-- Days before a month of a year. -/
def bef (y m : Int) : Int := (367 * m - 362) / 12 - if 2 < m then 2 - lp y else 0
def start (y : Int) : Int := (y + 10003) / 4 - (y + 10099) / 100 + (y + 10399) / 400 + (y + 10000) * 365 - 3652425 - 719528
def len (y m : Int) : Int := if 1 ≤ m ∧ m ≤ 12 then bef y (m + 1) - bef y m else 0
def num (y m d : Int) : Int := start y + bef y m + d - 1
def wd (n : Int) : Int := (n + 3) % 7 + 1

theorem lp_01 (y : Int) : 0 ≤ lp y ∧ lp y ≤ 1 := by unfold lp; split <;> omega
theorem lp_leap (y : Int) : lp y = if leap y = true then 1 else 0 := by
  unfold lp leap
  by_cases h : y % 4 = 0 ∧ (y % 100 ≠ 0 ∨ y % 400 = 0) <;> simp [h]
theorem start_succ (y : Int) : start (y + 1) = start y + 365 + lp y := by unfold start lp; split <;> omega
theorem start_mono (a b : Int) (h : a ≤ b) : start a + 365 * (b - a) ≤ start b := by unfold start; omega
theorem start_400 (y : Int) : start (y + 400) = start y + 146097 := by unfold start; omega
theorem lp_400 (y : Int) : lp (y + 400) = lp y := by unfold lp; congr 1; simp; omega
theorem bef_400 (y m : Int) : bef (y + 400) m = bef y m := by unfold bef; rw [lp_400]
theorem len_400 (y m : Int) : len (y + 400) m = len y m := by unfold len; rw [bef_400, bef_400]
theorem bef_one (y : Int) : bef y 1 = 0 := by unfold bef; omega
theorem bef_last (y : Int) : bef y 13 = 365 + lp y := by have := lp_01 y; unfold bef; simp; omega
theorem bef_bd (y m : Int) (h1 : 1 ≤ m) (h2 : m ≤ 13) : 0 ≤ bef y m ∧ bef y m ≤ 366 := by have := lp_01 y; unfold bef; split <;> omega
theorem bef_mono (y m k : Int) (h1 : 1 ≤ m) (h2 : m < k) (h3 : k ≤ 13) : bef y m + 28 ≤ bef y k := by
  have := lp_01 y
  unfold bef
  split <;> split <;> omega
theorem len_is (y m : Int) (h1 : 1 ≤ m) (h2 : m ≤ 12) : len y m = bef y (m + 1) - bef y m := by unfold len; rw [if_pos ⟨h1, h2⟩]
theorem len_out (y m : Int) (h : ¬ (1 ≤ m ∧ m ≤ 12)) : len y m = 0 := by unfold len; rw [if_neg h]
theorem len_bd (y m : Int) (h1 : 1 ≤ m) (h2 : m ≤ 12) : 28 ≤ len y m ∧ len y m ≤ 31 := by
  rw [len_is y m h1 h2]
  have := lp_01 y
  unfold bef
  split <;> split <;> omega
theorem start_bd (y : Int) (h1 : -9999 ≤ y) (h2 : y ≤ 10000) : -4371587 ≤ start y ∧ start y ≤ 2932897 := by unfold start; omega

/-- The first guess of the year of a day is that year, or one beside it. -/
theorem guess (n : Int) (h1 : -4371587 ≤ n) (h2 : n < 2932897) :
    start ((n + 719528 + 3652425) * 400 / 146097 - 10000 - 1) ≤ n ∧ n < start ((n + 719528 + 3652425) * 400 / 146097 - 10000 + 2) ∧
    -9999 ≤ (n + 719528 + 3652425) * 400 / 146097 - 10000 + 1 ∧ (n + 719528 + 3652425) * 400 / 146097 - 10000 ≤ 10000 := by
  unfold start
  omega

end Cal

theorem ret_int {k : IntKind} {a b : Int} (h : a = b) : Ending.returned (.int k a) = .returned (.int k b) := by rw [h]
theorem ret_bool {a b : Bool} (h : a = b) : Ending.returned (.bool a) = .returned (.bool b) := by rw [h]
theorem ret_int2 {k l : IntKind} {a b c d : Int} (h : a = b) (h' : c = d) : Ending.returned (.tuple #[.int k a, .int l c]) = .returned (.tuple #[.int k b, .int l d]) := by rw [h, h']

/-- The table of the days ahead of each month, as it lies in memory. -/
def Tab (w : World) : Prop := ∀ i : Nat, i < 13 → w.cell? ⟨0, i, none⟩ = some (.int .i64 (Cal.cum ((i : Int) + 1)))

theorem tmod_iff (y k : Int) (hk : 0 < k) : y.tmod k = 0 ↔ y % k = 0 :=
  ⟨fun h => Int.emod_eq_zero_of_dvd (Int.dvd_of_tmod_eq_zero h), fun h => Int.tmod_eq_zero_of_dvd (Int.dvd_of_emod_eq_zero h)⟩


/-- What Date answers: some date, and that it has the number. -/
def DateOf (n : Int) (e : Ending) : Prop := ∃ y m d : Int, e = .returned (.tuple #[.int .i64 y, .int .i64 m, .int .i64 d, .int .i64 0]) ∧ -9999 ≤ y ∧ y ≤ 9999 ∧ 1 ≤ m ∧ m ≤ 12 ∧ 1 ≤ d ∧ d ≤ Cal.len y m ∧ Cal.num y m d = n


namespace Cal
/-- A year, a month and a day that are a date. -/
structure Valid (y m d : Int) : Prop where
  y1 : -9999 ≤ y
  y2 : y ≤ 9999
  d1 : 1 ≤ d
  d2 : d ≤ len y m
theorem Valid.month {y m d : Int} (h : Valid y m d) : 1 ≤ m ∧ m ≤ 12 := by
  by_cases c : 1 ≤ m ∧ m ≤ 12
  · exact c
  · have h1 := h.d1
    have h2 := h.d2
    rw [len_out y m c] at h2; omega
theorem Valid.within {y m d : Int} (h : Valid y m d) : start y ≤ num y m d ∧ num y m d < start (y + 1) ∧ start y + bef y m ≤ num y m d ∧ num y m d < start y + bef y (m + 1) := by
  obtain ⟨m1, m2⟩ := h.month
  have h1 := h.d1
  have h2 := h.d2
  rw [len_is y m m1 m2] at h2
  have b := bef_bd y m m1 (by omega)
  have e := start_succ y
  have l := bef_last y
  have k : bef y (m + 1) ≤ bef y 13 := by
    by_cases c : m = 12
    · rw [c]; exact Int.le_refl _
    · have := bef_mono y (m + 1) 13 (by omega) (by omega) (by omega); omega
  unfold num
  omega
theorem Valid.range {y m d : Int} (h : Valid y m d) : -4371587 ≤ num y m d ∧ num y m d < 2932897 := by
  have w := h.within
  have h1 := h.y1
  have h2 := h.y2
  have s := start_bd y h1 (by omega)
  have s2 := start_bd (y + 1) (by omega) (by omega)
  omega
theorem num_lt {y m d y' m' d' : Int} (h : Valid y m d) (h' : Valid y' m' d') (c : y < y' ∨ y = y' ∧ (m < m' ∨ m = m' ∧ d < d')) : num y m d < num y' m' d' := by
  have w := h.within
  have w' := h'.within
  obtain ⟨m1, m2⟩ := h.month
  obtain ⟨m1', m2'⟩ := h'.month
  rcases c with c | ⟨rfl, c | ⟨rfl, c⟩⟩
  · have := start_mono (y + 1) y' (by omega)
    omega
  · have k : bef y (m + 1) ≤ bef y m' := by
      by_cases e : m + 1 = m'
      · rw [e]; exact Int.le_refl _
      · have := bef_mono y (m + 1) m' (by omega) (by omega) (by omega); omega
    omega
  · unfold num; omega
theorem num_inj {y m d y' m' d' : Int} (h : Valid y m d) (h' : Valid y' m' d') (e : num y m d = num y' m' d') : y = y' ∧ m = m' ∧ d = d' := by
  have a : ¬ (y < y' ∨ y = y' ∧ (m < m' ∨ m = m' ∧ d < d')) := fun c => by have := num_lt h h' c; omega
  have b : ¬ (y' < y ∨ y' = y ∧ (m' < m ∨ m' = m ∧ d' < d)) := fun c => by have := num_lt h' h c; omega
  omega
end Cal

namespace Cal
theorem some_month (y r : Int) (h0 : 0 ≤ r) (k : Nat) : r < bef y ((k : Int) + 1) → ∃ m : Int, 1 ≤ m ∧ m ≤ k ∧ bef y m ≤ r ∧ r < bef y (m + 1) := by
  induction k with
  | zero =>
    intro h
    have e := bef_one y
    have z : ((0 : Nat) : Int) + 1 = 1 := by omega
    rw [z] at h
    omega
  | succ k ih =>
    intro h
    by_cases c : r < bef y ((k : Int) + 1)
    · obtain ⟨m, a, b, d, e⟩ := ih c
      exact ⟨m, a, by omega, d, e⟩
    · refine ⟨(k : Int) + 1, by omega, by omega, by omega, ?_⟩
      have e : (((k + 1 : Nat) : Int) + 1) = (k : Int) + 1 + 1 := by omega
      rw [e] at h
      exact h
/-- For each number of a day there is the date. -/
theorem some_date (n : Int) (h1 : -4371587 ≤ n) (h2 : n < 2932897) : ∃ y m d : Int, Valid y m d ∧ num y m d = n := by
  have hy : ∃ y, start y ≤ n ∧ n < start (y + 1) := by
    obtain ⟨a, b, c, d⟩ := guess n h1 h2
    generalize (n + 719528 + 3652425) * 400 / 146097 - 10000 = g at *
    by_cases c1 : n < start g
    · exact ⟨g - 1, a, by rw [show g - 1 + 1 = g from by omega]; exact c1⟩
    · by_cases c2 : n < start (g + 1)
      · exact ⟨g, by omega, c2⟩
      · exact ⟨g + 1, by omega, by rw [show g + 1 + 1 = g + 2 from by omega]; exact b⟩
  obtain ⟨y, ha, hb⟩ := hy
  have yb : -9999 ≤ y ∧ y ≤ 9999 := by
    refine ⟨?_, ?_⟩
    · by_cases c : -9999 ≤ y
      · exact c
      · have := start_mono (y + 1) (-9999) (by omega)
        have e : start (-9999) = -4371587 := by decide
        omega
    · by_cases c : y ≤ 9999
      · exact c
      · have := start_mono 10000 y (by omega)
        have e : start 10000 = 2932897 := by decide
        omega
  rw [start_succ] at hb
  obtain ⟨m, m1, m2, m3, m4⟩ := some_month y (n - start y) (by omega) 12 (by
    have := bef_last y
    rw [show ((12 : Nat) : Int) + 1 = 13 from rfl]
    omega)
  have hl := len_is y m m1 (by omega)
  exact ⟨y, m, n - start y - bef y m + 1, ⟨yb.1, yb.2, by omega, by omega⟩, by unfold num; omega⟩
end Cal


theorem ret_int3' {k l m : IntKind} {a b c d f g : Int} (h : a = b) (h' : c = d) (h'' : f = g) : Ending.returned (.tuple #[.int k a, .int l c, .int m f]) = .returned (.tuple #[.int k b, .int l d, .int m g]) := by rw [h, h', h'']
theorem ret_int4' {k l m n : IntKind} {a b c d f g i j : Int} (h : a = b) (h' : c = d) (h'' : f = g) (h3 : i = j) : Ending.returned (.tuple #[.int k a, .int l c, .int m f, .int n i]) = .returned (.tuple #[.int k b, .int l d, .int m g, .int n j]) := by rw [h, h', h'', h3]

namespace Cal
/-- The Monday of a year's first week. -/
def op (y : Int) : Int := start y + 3 - wd (start y + 3) + 1
def cov (y : Int) : Bool := decide (-9999 ≤ y ∧ y ≤ 9999)
/-- How many weeks a year has. -/
def weeks (y : Int) : Int := if -9999 ≤ y ∧ y ≤ 9999 then (if wd (start y) = 4 ∨ wd (start (y + 1) - 1) = 4 then 53 else 52) else 0
theorem fourth (y : Int) : num y 1 4 = start y + 3 := by unfold num; rw [bef_one]; omega
theorem first (y : Int) : num y 1 1 = start y := by unfold num; rw [bef_one]; omega
theorem last (y : Int) : num y 12 31 = start (y + 1) - 1 := by
  have := lp_01 y
  rw [start_succ]
  unfold num bef
  simp
  omega
theorem last28 (y : Int) : num y 12 28 = start (y + 1) - 4 := by
  have := lp_01 y
  rw [start_succ]
  unfold num bef
  simp
  omega
theorem valid_day (y d : Int) (h1 : -9999 ≤ y) (h2 : y ≤ 9999) (h3 : 1 ≤ d) (h4 : d ≤ 28) : Valid y 1 d := ⟨h1, h2, h3, by have := len_bd y 1 (by omega) (by omega); omega⟩
theorem valid_dec (y d : Int) (h1 : -9999 ≤ y) (h2 : y ≤ 9999) (h3 : 1 ≤ d) (h4 : d ≤ 31) : Valid y 12 d := ⟨h1, h2, h3, by
  rw [len_is y 12 (by omega) (by omega)]
  have := bef_last y
  have := lp_01 y
  have e : bef y (12 + 1) = bef y 13 := rfl
  have f : bef y 12 = 334 + lp y := by unfold bef; simp; omega
  omega⟩
theorem wd_bd (n : Int) : 1 ≤ wd n ∧ wd n ≤ 7 := by unfold wd; omega
/-- A day whose Thursday is in a year is not ahead of that year's first week, nor behind its last one. -/
theorem in_weeks (n y : Int) (h1 : start y ≤ n - wd n + 4) (h2 : n - wd n + 4 < start (y + 1)) : op y ≤ n ∧ n < op (y + 1) := by
  unfold op wd at *
  omega
theorem op_next (y : Int) (h1 : -9999 ≤ y) (h2 : y ≤ 9999) : op (y + 1) = op y + 7 * weeks y := by
  have l := lp_01 y
  have e := start_succ y
  unfold weeks
  rw [if_pos ⟨h1, h2⟩]
  unfold op wd at *
  rw [e]
  split <;> omega
end Cal


namespace Cal
theorem weeks_bd (y : Int) : 0 ≤ weeks y ∧ weeks y ≤ 53 := by unfold weeks; split <;> (try split) <;> omega
theorem weeks_cov (y : Int) (h : 0 < weeks y) : -9999 ≤ y ∧ y ≤ 9999 := by
  unfold weeks at h
  by_cases c : -9999 ≤ y ∧ y ≤ 9999
  · exact c
  · rw [if_neg c] at h; omega
theorem op_bd (y : Int) (h1 : -9999 ≤ y) (h2 : y ≤ 9999) : -4400000 ≤ op y ∧ op y ≤ 2950000 := by
  have b := start_bd y h1 (by omega)
  have := wd_bd (start y + 3)
  unfold op
  omega
end Cal

section

theorem ba4_0 (a b c d : UInt8) (h : 0 < (ByteArray.mk #[a, b, c, d]).size) : (ByteArray.mk #[a, b, c, d])[0]'h = a := rfl
attribute [local go_sem] ba4_0
theorem ba4_1 (a b c d : UInt8) (h : 1 < (ByteArray.mk #[a, b, c, d]).size) : (ByteArray.mk #[a, b, c, d])[1]'h = b := rfl
attribute [local go_sem] ba4_1
theorem ba4_2 (a b c d : UInt8) (h : 2 < (ByteArray.mk #[a, b, c, d]).size) : (ByteArray.mk #[a, b, c, d])[2]'h = c := rfl
attribute [local go_sem] ba4_2
theorem ba4_3 (a b c d : UInt8) (h : 3 < (ByteArray.mk #[a, b, c, d]).size) : (ByteArray.mk #[a, b, c, d])[3]'h = d := rfl
attribute [local go_sem] ba4_3
theorem ba6_0 (a b c d f g : UInt8) (h : 0 < (ByteArray.mk #[a, b, c, d, f, g]).size) : (ByteArray.mk #[a, b, c, d, f, g])[0]'h = a := rfl
attribute [local go_sem] ba6_0
theorem ba6_1 (a b c d f g : UInt8) (h : 1 < (ByteArray.mk #[a, b, c, d, f, g]).size) : (ByteArray.mk #[a, b, c, d, f, g])[1]'h = b := rfl
attribute [local go_sem] ba6_1
theorem ba6_2 (a b c d f g : UInt8) (h : 2 < (ByteArray.mk #[a, b, c, d, f, g]).size) : (ByteArray.mk #[a, b, c, d, f, g])[2]'h = c := rfl
attribute [local go_sem] ba6_2
theorem ba6_3 (a b c d f g : UInt8) (h : 3 < (ByteArray.mk #[a, b, c, d, f, g]).size) : (ByteArray.mk #[a, b, c, d, f, g])[3]'h = d := rfl
attribute [local go_sem] ba6_3
theorem ba6_4 (a b c d f g : UInt8) (h : 4 < (ByteArray.mk #[a, b, c, d, f, g]).size) : (ByteArray.mk #[a, b, c, d, f, g])[4]'h = f := rfl
attribute [local go_sem] ba6_4
theorem ba6_5 (a b c d f g : UInt8) (h : 5 < (ByteArray.mk #[a, b, c, d, f, g]).size) : (ByteArray.mk #[a, b, c, d, f, g])[5]'h = g := rfl
attribute [local go_sem] ba6_5
theorem drewN_drewN (w : World) (n m : Nat) : (w.drewN n).drewN m = w.drewN (n + m) := by simp [World.drewN, Nat.add_assoc]
theorem u8_45 : (45 : UInt8).toNat = 45 := rfl
theorem u8_48 : (48 : UInt8).toNat = 48 := rfl
theorem u8_87 : (87 : UInt8).toNat = 87 := rfl
attribute [local go_sem] u8_45 u8_48 u8_87

def fitN (a b c d : UInt8) : Prop := ((a.toNat : Int) = 45) ∧ (48 ≤ (b.toNat : Int) ∧ (b.toNat : Int) ≤ 57) ∧ (48 ≤ (c.toNat : Int) ∧ (c.toNat : Int) ≤ 57) ∧ (48 ≤ (d.toNat : Int) ∧ (d.toNat : Int) ≤ 57)
def staN (a b c d : UInt8) (k : Nat) (x y z : Value) : Prop :=
  (k = 0 ∧ x = .int .i64 0 ∧ y = .int .i64 0 ∧ z = .int .i64 0) ∨ (k = 1 ∧ x = .int .i64 0 ∧ y = .int .i64 0 ∧ z = .int .i64 0 ∧ ((a.toNat : Int) = 45)) ∨ (k = 2 ∧ x = .int .i64 ((b.toNat : Int) - 48) ∧ y = .int .i64 ((b.toNat : Int) - 48) ∧ z = .int .i64 1 ∧ ((a.toNat : Int) = 45) ∧ (48 ≤ (b.toNat : Int) ∧ (b.toNat : Int) ≤ 57)) ∨ (k = 3 ∧ x = .int .i64 (((b.toNat : Int) - 48) * 10 + ((c.toNat : Int) - 48)) ∧ y = .int .i64 (((b.toNat : Int) - 48) * 10 + ((c.toNat : Int) - 48)) ∧ z = .int .i64 1 ∧ ((a.toNat : Int) = 45) ∧ (48 ≤ (b.toNat : Int) ∧ (b.toNat : Int) ≤ 57) ∧ (48 ≤ (c.toNat : Int) ∧ (c.toNat : Int) ≤ 57)) ∨ (k = 4 ∧ x = .int .i64 ((((b.toNat : Int) - 48) * 10 + ((c.toNat : Int) - 48)) * 10 + ((d.toNat : Int) - 48)) ∧ y = .int .i64 ((((b.toNat : Int) - 48) * 10 + ((c.toNat : Int) - 48)) * 10 + ((d.toNat : Int) - 48)) ∧ z = .int .i64 1 ∧ ((a.toNat : Int) = 45) ∧ (48 ≤ (b.toNat : Int) ∧ (b.toNat : Int) ≤ 57) ∧ (48 ≤ (c.toNat : Int) ∧ (c.toNat : Int) ≤ 57) ∧ (48 ≤ (d.toNat : Int) ∧ (d.toNat : Int) ≤ 57))
def fitY (a b c d : UInt8) : Prop := (48 ≤ (a.toNat : Int) ∧ (a.toNat : Int) ≤ 57) ∧ (48 ≤ (b.toNat : Int) ∧ (b.toNat : Int) ≤ 57) ∧ (48 ≤ (c.toNat : Int) ∧ (c.toNat : Int) ≤ 57) ∧ (48 ≤ (d.toNat : Int) ∧ (d.toNat : Int) ≤ 57)
def staY (a b c d : UInt8) (k : Nat) (x y z : Value) : Prop :=
  (k = 0 ∧ x = .int .i64 0 ∧ y = .int .i64 0 ∧ z = .int .i64 0) ∨ (k = 1 ∧ x = .int .i64 ((a.toNat : Int) - 48) ∧ y = .int .i64 ((a.toNat : Int) - 48) ∧ z = .int .i64 1 ∧ (48 ≤ (a.toNat : Int) ∧ (a.toNat : Int) ≤ 57)) ∨ (k = 2 ∧ x = .int .i64 (((a.toNat : Int) - 48) * 10 + ((b.toNat : Int) - 48)) ∧ y = .int .i64 (((a.toNat : Int) - 48) * 10 + ((b.toNat : Int) - 48)) ∧ z = .int .i64 1 ∧ (48 ≤ (a.toNat : Int) ∧ (a.toNat : Int) ≤ 57) ∧ (48 ≤ (b.toNat : Int) ∧ (b.toNat : Int) ≤ 57)) ∨ (k = 3 ∧ x = .int .i64 ((((a.toNat : Int) - 48) * 10 + ((b.toNat : Int) - 48)) * 10 + ((c.toNat : Int) - 48)) ∧ y = .int .i64 ((((a.toNat : Int) - 48) * 10 + ((b.toNat : Int) - 48)) * 10 + ((c.toNat : Int) - 48)) ∧ z = .int .i64 1 ∧ (48 ≤ (a.toNat : Int) ∧ (a.toNat : Int) ≤ 57) ∧ (48 ≤ (b.toNat : Int) ∧ (b.toNat : Int) ≤ 57) ∧ (48 ≤ (c.toNat : Int) ∧ (c.toNat : Int) ≤ 57)) ∨ (k = 4 ∧ x = .int .i64 (((((a.toNat : Int) - 48) * 10 + ((b.toNat : Int) - 48)) * 10 + ((c.toNat : Int) - 48)) * 10 + ((d.toNat : Int) - 48)) ∧ y = .int .i64 (((((a.toNat : Int) - 48) * 10 + ((b.toNat : Int) - 48)) * 10 + ((c.toNat : Int) - 48)) * 10 + ((d.toNat : Int) - 48)) ∧ z = .int .i64 1 ∧ (48 ≤ (a.toNat : Int) ∧ (a.toNat : Int) ≤ 57) ∧ (48 ≤ (b.toNat : Int) ∧ (b.toNat : Int) ≤ 57) ∧ (48 ≤ (c.toNat : Int) ∧ (c.toNat : Int) ≤ 57) ∧ (48 ≤ (d.toNat : Int) ∧ (d.toNat : Int) ≤ 57))
def fitD (a b c d f g : UInt8) : Prop := ((a.toNat : Int) = 45) ∧ (48 ≤ (b.toNat : Int) ∧ (b.toNat : Int) ≤ 57) ∧ (48 ≤ (c.toNat : Int) ∧ (c.toNat : Int) ≤ 57) ∧ ((d.toNat : Int) = 45) ∧ (48 ≤ (f.toNat : Int) ∧ (f.toNat : Int) ≤ 57) ∧ (48 ≤ (g.toNat : Int) ∧ (g.toNat : Int) ≤ 57)
def staD (a b c d f g : UInt8) (k : Nat) (x y z : Value) : Prop :=
  (k = 0 ∧ x = .int .i64 0 ∧ y = .int .i64 0 ∧ z = .int .i64 0) ∨ (k = 1 ∧ x = .int .i64 0 ∧ y = .int .i64 0 ∧ z = .int .i64 0 ∧ ((a.toNat : Int) = 45)) ∨ (k = 2 ∧ x = .int .i64 ((b.toNat : Int) - 48) ∧ y = .int .i64 ((b.toNat : Int) - 48) ∧ z = .int .i64 1 ∧ ((a.toNat : Int) = 45) ∧ (48 ≤ (b.toNat : Int) ∧ (b.toNat : Int) ≤ 57)) ∨ (k = 3 ∧ x = .int .i64 (((b.toNat : Int) - 48) * 10 + ((c.toNat : Int) - 48)) ∧ y = .int .i64 (((b.toNat : Int) - 48) * 10 + ((c.toNat : Int) - 48)) ∧ z = .int .i64 1 ∧ ((a.toNat : Int) = 45) ∧ (48 ≤ (b.toNat : Int) ∧ (b.toNat : Int) ≤ 57) ∧ (48 ≤ (c.toNat : Int) ∧ (c.toNat : Int) ≤ 57)) ∨ (k = 4 ∧ x = .int .i64 (((b.toNat : Int) - 48) * 10 + ((c.toNat : Int) - 48)) ∧ y = .int .i64 (((b.toNat : Int) - 48) * 10 + ((c.toNat : Int) - 48)) ∧ z = .int .i64 1 ∧ ((a.toNat : Int) = 45) ∧ (48 ≤ (b.toNat : Int) ∧ (b.toNat : Int) ≤ 57) ∧ (48 ≤ (c.toNat : Int) ∧ (c.toNat : Int) ≤ 57) ∧ ((d.toNat : Int) = 45)) ∨ (k = 5 ∧ x = .int .i64 (((b.toNat : Int) - 48) * 10 + ((c.toNat : Int) - 48)) ∧ y = .int .i64 ((f.toNat : Int) - 48) ∧ z = .int .i64 2 ∧ ((a.toNat : Int) = 45) ∧ (48 ≤ (b.toNat : Int) ∧ (b.toNat : Int) ≤ 57) ∧ (48 ≤ (c.toNat : Int) ∧ (c.toNat : Int) ≤ 57) ∧ ((d.toNat : Int) = 45) ∧ (48 ≤ (f.toNat : Int) ∧ (f.toNat : Int) ≤ 57)) ∨ (k = 6 ∧ x = .int .i64 (((b.toNat : Int) - 48) * 10 + ((c.toNat : Int) - 48)) ∧ y = .int .i64 (((f.toNat : Int) - 48) * 10 + ((g.toNat : Int) - 48)) ∧ z = .int .i64 2 ∧ ((a.toNat : Int) = 45) ∧ (48 ≤ (b.toNat : Int) ∧ (b.toNat : Int) ≤ 57) ∧ (48 ≤ (c.toNat : Int) ∧ (c.toNat : Int) ≤ 57) ∧ ((d.toNat : Int) = 45) ∧ (48 ≤ (f.toNat : Int) ∧ (f.toNat : Int) ≤ 57) ∧ (48 ≤ (g.toNat : Int) ∧ (g.toNat : Int) ≤ 57))
def fitW (a b c d f g : UInt8) : Prop := ((a.toNat : Int) = 45) ∧ ((b.toNat : Int) = 87) ∧ (48 ≤ (c.toNat : Int) ∧ (c.toNat : Int) ≤ 57) ∧ (48 ≤ (d.toNat : Int) ∧ (d.toNat : Int) ≤ 57) ∧ ((f.toNat : Int) = 45) ∧ (48 ≤ (g.toNat : Int) ∧ (g.toNat : Int) ≤ 57)
def staW (a b c d f g : UInt8) (k : Nat) (x y z : Value) : Prop :=
  (k = 0 ∧ x = .int .i64 0 ∧ y = .int .i64 0 ∧ z = .int .i64 0) ∨ (k = 1 ∧ x = .int .i64 0 ∧ y = .int .i64 0 ∧ z = .int .i64 0 ∧ ((a.toNat : Int) = 45)) ∨ (k = 2 ∧ x = .int .i64 0 ∧ y = .int .i64 0 ∧ z = .int .i64 0 ∧ ((a.toNat : Int) = 45) ∧ ((b.toNat : Int) = 87)) ∨ (k = 3 ∧ x = .int .i64 ((c.toNat : Int) - 48) ∧ y = .int .i64 ((c.toNat : Int) - 48) ∧ z = .int .i64 1 ∧ ((a.toNat : Int) = 45) ∧ ((b.toNat : Int) = 87) ∧ (48 ≤ (c.toNat : Int) ∧ (c.toNat : Int) ≤ 57)) ∨ (k = 4 ∧ x = .int .i64 (((c.toNat : Int) - 48) * 10 + ((d.toNat : Int) - 48)) ∧ y = .int .i64 (((c.toNat : Int) - 48) * 10 + ((d.toNat : Int) - 48)) ∧ z = .int .i64 1 ∧ ((a.toNat : Int) = 45) ∧ ((b.toNat : Int) = 87) ∧ (48 ≤ (c.toNat : Int) ∧ (c.toNat : Int) ≤ 57) ∧ (48 ≤ (d.toNat : Int) ∧ (d.toNat : Int) ≤ 57)) ∨ (k = 5 ∧ x = .int .i64 (((c.toNat : Int) - 48) * 10 + ((d.toNat : Int) - 48)) ∧ y = .int .i64 (((c.toNat : Int) - 48) * 10 + ((d.toNat : Int) - 48)) ∧ z = .int .i64 1 ∧ ((a.toNat : Int) = 45) ∧ ((b.toNat : Int) = 87) ∧ (48 ≤ (c.toNat : Int) ∧ (c.toNat : Int) ≤ 57) ∧ (48 ≤ (d.toNat : Int) ∧ (d.toNat : Int) ≤ 57) ∧ ((f.toNat : Int) = 45)) ∨ (k = 6 ∧ x = .int .i64 (((c.toNat : Int) - 48) * 10 + ((d.toNat : Int) - 48)) ∧ y = .int .i64 ((g.toNat : Int) - 48) ∧ z = .int .i64 2 ∧ ((a.toNat : Int) = 45) ∧ ((b.toNat : Int) = 87) ∧ (48 ≤ (c.toNat : Int) ∧ (c.toNat : Int) ≤ 57) ∧ (48 ≤ (d.toNat : Int) ∧ (d.toNat : Int) ≤ 57) ∧ ((f.toNat : Int) = 45) ∧ (48 ≤ (g.toNat : Int) ∧ (g.toNat : Int) ≤ 57))
end
end Go.Proofs.YtllhcpkpbipjlaaDoor
