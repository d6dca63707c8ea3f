/- Contracts of package civil: a number's date is the date; the chapter's examples. -/
import Derived.Test.YthkddellilhhaaaGreatDoorFn2
namespace Go.Proofs.YthkddellilhhaaaGreatDoor
set_option linter.unusedVariables false
open Go.ChangeShapes Go.WideShapes Go.ChangeAt Go.RowKit

namespace Cal
/-- A year, a month and a day that are a date. -/
structure Valid (y m d : Int) : Prop where
  y1 : -9999 ≤ y
  y2 : y ≤ 9999
  d1 : 1 ≤ d
  d2 : d ≤ len y m
theorem Valid.month {y m d : Int} (h : Valid y m d) : 1 ≤ m ∧ m ≤ 12 := by
  by_cases c : 1 ≤ m ∧ m ≤ 12
  · exact c
  · have h1 := h.d1
    have h2 := h.d2
    rw [len_out y m c] at h2; omega
theorem Valid.within {y m d : Int} (h : Valid y m d) : start y ≤ num y m d ∧ num y m d < start (y + 1) ∧ start y + bef y m ≤ num y m d ∧ num y m d < start y + bef y (m + 1) := by
  obtain ⟨m1, m2⟩ := h.month
  have h1 := h.d1
  have h2 := h.d2
  rw [len_is y m m1 m2] at h2
  have b := bef_bd y m m1 (by omega)
  have e := start_succ y
  have l := bef_last y
  have k : bef y (m + 1) ≤ bef y 13 := by
    by_cases c : m = 12
    · rw [c]; exact Int.le_refl _
    · have := bef_mono y (m + 1) 13 (by omega) (by omega) (by omega); omega
  unfold num
  omega
theorem Valid.range {y m d : Int} (h : Valid y m d) : -4371587 ≤ num y m d ∧ num y m d < 2932897 := by
  have w := h.within
  have h1 := h.y1
  have h2 := h.y2
  have s := start_bd y h1 (by omega)
  have s2 := start_bd (y + 1) (by omega) (by omega)
  omega
theorem num_lt {y m d y' m' d' : Int} (h : Valid y m d) (h' : Valid y' m' d') (c : y < y' ∨ y = y' ∧ (m < m' ∨ m = m' ∧ d < d')) : num y m d < num y' m' d' := by
  have w := h.within
  have w' := h'.within
  obtain ⟨m1, m2⟩ := h.month
  obtain ⟨m1', m2'⟩ := h'.month
  rcases c with c | ⟨rfl, c | ⟨rfl, c⟩⟩
  · have := start_mono (y + 1) y' (by omega)
    omega
  · have k : bef y (m + 1) ≤ bef y m' := by
      by_cases e : m + 1 = m'
      · rw [e]; exact Int.le_refl _
      · have := bef_mono y (m + 1) m' (by omega) (by omega) (by omega); omega
    omega
  · unfold num; omega
theorem num_inj {y m d y' m' d' : Int} (h : Valid y m d) (h' : Valid y' m' d') (e : num y m d = num y' m' d') : y = y' ∧ m = m' ∧ d = d' := by
  have a : ¬ (y < y' ∨ y = y' ∧ (m < m' ∨ m = m' ∧ d < d')) := fun c => by have := num_lt h h' c; omega
  have b : ¬ (y' < y ∨ y' = y ∧ (m' < m ∨ m' = m ∧ d' < d)) := fun c => by have := num_lt h' h c; omega
  omega
end Cal

theorem days_valid (y m d : Int) (w : World) (hT : Tab w) (h : Cal.Valid y m d) :
    Calls Tryz.prog 91 #[.int .i64 y, .int .i64 m, .int .i64 d] w fun e w' => e = .returned (.tuple #[.int .i64 (Cal.num y m d), .int .i64 0]) ∧ w = w' :=
  days_ok y m d w hT h.y1 h.y2 h.d1 h.d2
theorem days_not (y m d : Int) (w : World) (hT : Tab w) (h : ¬ Cal.Valid y m d) :
    Calls Tryz.prog 91 #[.int .i64 y, .int .i64 m, .int .i64 d] w fun e w' => e = .returned (.tuple #[.int .i64 0, .int .i64 30]) ∧ w = w' :=
  days_err y m d w hT fun ⟨a, b, c, e⟩ => h ⟨a, b, c, e⟩
theorem date_num (y m d : Int) (w : World) (hT : Tab w) (h : Cal.Valid y m d) :
    Calls Tryz.prog 36 #[.int .i64 (Cal.num y m d)] w fun e w' => e = .returned (.tuple #[.int .i64 y, .int .i64 m, .int .i64 d, .int .i64 0]) ∧ w = w' := by
  obtain ⟨r1, r2⟩ := h.range
  refine (date_ok _ w hT r1 r2).mono ?_
  rintro e w' ⟨⟨y', m', d', rfl, a1, a2, a3, a4, a5, a6, a7⟩, hw⟩
  obtain ⟨rfl, rfl, rfl⟩ := Cal.num_inj h ⟨a1, a2, a5, a6⟩ a7.symm
  exact ⟨rfl, hw⟩
namespace Cal
theorem some_month (y r : Int) (h0 : 0 ≤ r) (k : Nat) : r < bef y ((k : Int) + 1) → ∃ m : Int, 1 ≤ m ∧ m ≤ k ∧ bef y m ≤ r ∧ r < bef y (m + 1) := by
  induction k with
  | zero =>
    intro h
    have e := bef_one y
    have z : ((0 : Nat) : Int) + 1 = 1 := by omega
    rw [z] at h
    omega
  | succ k ih =>
    intro h
    by_cases c : r < bef y ((k : Int) + 1)
    · obtain ⟨m, a, b, d, e⟩ := ih c
      exact ⟨m, a, by omega, d, e⟩
    · refine ⟨(k : Int) + 1, by omega, by omega, by omega, ?_⟩
      have e : (((k + 1 : Nat) : Int) + 1) = (k : Int) + 1 + 1 := by omega
      rw [e] at h
      exact h
/-- For each number of a day there is the date. -/
theorem some_date (n : Int) (h1 : -4371587 ≤ n) (h2 : n < 2932897) : ∃ y m d : Int, Valid y m d ∧ num y m d = n := by
  have hy : ∃ y, start y ≤ n ∧ n < start (y + 1) := by
    obtain ⟨a, b, c, d⟩ := guess n h1 h2
    generalize (n + 719528 + 3652425) * 400 / 146097 - 10000 = g at *
    by_cases c1 : n < start g
    · exact ⟨g - 1, a, by rw [show g - 1 + 1 = g from by omega]; exact c1⟩
    · by_cases c2 : n < start (g + 1)
      · exact ⟨g, by omega, c2⟩
      · exact ⟨g + 1, by omega, by rw [show g + 1 + 1 = g + 2 from by omega]; exact b⟩
  obtain ⟨y, ha, hb⟩ := hy
  have yb : -9999 ≤ y ∧ y ≤ 9999 := by
    refine ⟨?_, ?_⟩
    · by_cases c : -9999 ≤ y
      · exact c
      · have := start_mono (y + 1) (-9999) (by omega)
        have e : start (-9999) = -4371587 := by decide
        omega
    · by_cases c : y ≤ 9999
      · exact c
      · have := start_mono 10000 y (by omega)
        have e : start 10000 = 2932897 := by decide
        omega
  rw [start_succ] at hb
  obtain ⟨m, m1, m2, m3, m4⟩ := some_month y (n - start y) (by omega) 12 (by
    have := bef_last y
    rw [show ((12 : Nat) : Int) + 1 = 13 from rfl]
    omega)
  have hl := len_is y m m1 (by omega)
  exact ⟨y, m, n - start y - bef y m + 1, ⟨yb.1, yb.2, by omega, by omega⟩, by unfold num; omega⟩
end Cal

end Go.Proofs.YthkddellilhhaaaGreatDoor
