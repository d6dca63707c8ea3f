/- Contracts of package date: the week of a day, the day of a week. -/
import Derived.Test.YthkddellilhhaaaGreatDoorDate
namespace Go.Proofs.YthkddellilhhaaaGreatDoor
set_option linter.unusedVariables false
open Go.ChangeShapes Go.WideShapes Go.ChangeAt Go.RowKit

namespace Cal
theorem weeks_bd (y : Int) : 0 ≤ weeks y ∧ weeks y ≤ 53 := by unfold weeks; split <;> (try split) <;> omega
theorem weeks_cov (y : Int) (h : 0 < weeks y) : -9999 ≤ y ∧ y ≤ 9999 := by
  unfold weeks at h
  by_cases c : -9999 ≤ y ∧ y ≤ 9999
  · exact c
  · rw [if_neg c] at h; omega
theorem op_bd (y : Int) (h1 : -9999 ≤ y) (h2 : y ≤ 9999) : -4400000 ≤ op y ∧ op y ≤ 2950000 := by
  have b := start_bd y h1 (by omega)
  have := wd_bd (start y + 3)
  unfold op
  omega
end Cal

theorem ofweek_ok (y k d : Int) (w : World) (hT : Tab w) (h1 : 1 ≤ k) (h2 : k ≤ Cal.weeks y) (h3 : 1 ≤ d) (h4 : d ≤ 7)
    (r1 : -4371587 ≤ Cal.op y + (k - 1) * 7 + (d - 1)) (r2 : Cal.op y + (k - 1) * 7 + (d - 1) < 2932897) :
    Calls Tryz.prog 92 #[.int .i64 y, .int .i64 k, .int .i64 d] w fun e w' => e = .returned (.tuple #[.int .i64 (Cal.op y + (k - 1) * 7 + (d - 1)), .int .i64 0]) ∧ w = w' := by
  have wb := (Cal.weeks_bd y).2
  have cv := Cal.weeks_cov y (by omega)
  have ob := Cal.op_bd y cv.1 cv.2
  have O := Lib.hid (fun w hT => opening_any y w hT cv.1 cv.2)
  have W := Lib.hid (fun w hT => weeks_any y w hT)
  have K := Lib.hid (fun w hT => known_ok (Cal.op y + (k - 1) * 7 + (d - 1)) w hT ⟨r1, r2⟩)
  have HT := Lib.hid hT
  obtain ⟨ob1, ob2⟩ := ob
  have k53 : k ≤ 53 := by omega
  clear hT cv wb r1 r2
  go_enter Tryz.func92, Tryz.ntmps92
  go_wp2_with (first
    | (go_at_call 112; (with_reducible refine (W.out _ HT.out).mono ?_); rintro e w' ⟨rfl, rfl⟩)
    | (go_at_call 114; (with_reducible refine (O.out _ HT.out).mono ?_); rintro e w' ⟨rfl, rfl⟩)
    | (go_at_call 113; (with_reducible refine (K.out _ HT.out).mono ?_); rintro e w' ⟨rfl, rfl⟩))
  go_returns
  exact ⟨rfl, rfl⟩

theorem ofweek_out (y k d : Int) (w : World) (hT : Tab w) (h1 : 1 ≤ k) (h2 : k ≤ Cal.weeks y) (h3 : 1 ≤ d) (h4 : d ≤ 7)
    (r : ¬ (-4371587 ≤ Cal.op y + (k - 1) * 7 + (d - 1) ∧ Cal.op y + (k - 1) * 7 + (d - 1) < 2932897)) :
    Calls Tryz.prog 92 #[.int .i64 y, .int .i64 k, .int .i64 d] w fun e w' => e = .returned (.tuple #[.int .i64 0, .int .i64 30]) ∧ w = w' := by
  have wb := (Cal.weeks_bd y).2
  have cv := Cal.weeks_cov y (by omega)
  have ob := Cal.op_bd y cv.1 cv.2
  have O := Lib.hid (fun w hT => opening_any y w hT cv.1 cv.2)
  have W := Lib.hid (fun w hT => weeks_any y w hT)
  have K := Lib.hid (fun w hT => known_no (Cal.op y + (k - 1) * 7 + (d - 1)) w hT r)
  have HT := Lib.hid hT
  obtain ⟨ob1, ob2⟩ := ob
  have k53 : k ≤ 53 := by omega
  clear hT cv wb r
  go_enter Tryz.func92, Tryz.ntmps92
  go_wp2_with (first
    | (go_at_call 112; (with_reducible refine (W.out _ HT.out).mono ?_); rintro e w' ⟨rfl, rfl⟩)
    | (go_at_call 114; (with_reducible refine (O.out _ HT.out).mono ?_); rintro e w' ⟨rfl, rfl⟩)
    | (go_at_call 113; (with_reducible refine (K.out _ HT.out).mono ?_); rintro e w' ⟨rfl, rfl⟩))
  go_returns
  exact ⟨rfl, rfl⟩

theorem ofweek_no (y k d : Int) (w : World) (hT : Tab w) (h : ¬ (1 ≤ k ∧ k ≤ Cal.weeks y ∧ 1 ≤ d ∧ d ≤ 7)) :
    Calls Tryz.prog 92 #[.int .i64 y, .int .i64 k, .int .i64 d] w fun e w' => e = .returned (.tuple #[.int .i64 0, .int .i64 30]) ∧ w = w' := by
  have W := Lib.hid (fun w hT => weeks_any y w hT)
  have HT := Lib.hid hT
  clear hT
  by_cases k1 : k < 1
  · clear h
    go_enter Tryz.func92, Tryz.ntmps92
    go_wp2_with (go_at_call 112; (with_reducible refine (W.out _ HT.out).mono ?_); rintro e w' ⟨rfl, rfl⟩)
    go_returns
    exact ⟨rfl, rfl⟩
  · by_cases k2 : Cal.weeks y < k
    · clear h
      go_enter Tryz.func92, Tryz.ntmps92
      go_wp2_with (go_at_call 112; (with_reducible refine (W.out _ HT.out).mono ?_); rintro e w' ⟨rfl, rfl⟩)
      go_returns
      exact ⟨rfl, rfl⟩
    · by_cases k3 : d < 1
      · clear h
        go_enter Tryz.func92, Tryz.ntmps92
        go_wp2_with (go_at_call 112; (with_reducible refine (W.out _ HT.out).mono ?_); rintro e w' ⟨rfl, rfl⟩)
        go_returns
        exact ⟨rfl, rfl⟩
      · have k4 : 7 < d := by omega
        clear h
        go_enter Tryz.func92, Tryz.ntmps92
        go_wp2_with (go_at_call 112; (with_reducible refine (W.out _ HT.out).mono ?_); rintro e w' ⟨rfl, rfl⟩)
        go_returns
        exact ⟨rfl, rfl⟩
end Go.Proofs.YthkddellilhhaaaGreatDoor
