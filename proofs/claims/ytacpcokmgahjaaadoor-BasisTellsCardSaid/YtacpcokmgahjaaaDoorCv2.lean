/- Contracts of the functions of package civil: Days, Date. -/
import Derived.Test.YtacpcokmgahjaaaDoorCv1
namespace Go.Proofs.YtacpcokmgahjaaaDoor
set_option linter.unusedVariables false
open Go.ChangeShapes Go.WideShapes Go.ChangeAt Go.RowKit

theorem days_ok (y m d : Int) (w : World) (hT : Tab w) (hy1 : -9999 ≤ y) (hy2 : y ≤ 9999) (hd1 : 1 ≤ d) (hd2 : d ≤ Cal.len y m) :
    Calls Tryd.prog 18 #[.int .i64 y, .int .i64 m, .int .i64 d] w fun e w' => e = .returned (.tuple #[.int .i64 (Cal.num y m d), .int .i64 0]) ∧ w = w' := by
  have hm : 1 ≤ m ∧ m ≤ 12 := by
    by_cases c : 1 ≤ m ∧ m ≤ 12
    · exact c
    · rw [Cal.len_out y m c] at hd2; omega
  obtain ⟨hm1, hm2⟩ := hm
  obtain ⟨l1, l2⟩ := Cal.len_bd y m hm1 hm2
  obtain ⟨b1, b2⟩ := Cal.bef_bd y m hm1 (by omega)
  obtain ⟨s1, s2⟩ := Cal.start_bd y hy1 (by omega)
  have R := Lib.hid (show Cal.start y + (Cal.bef y m + d - 1) = Cal.num y m d by unfold Cal.num; omega)
  have HT := Lib.hid hT
  clear hT
  go_enter Tryd.func18, Tryd.ntmps18
  go_wp2_with (first
    | (go_at_call 34; (with_reducible refine (length_any _ _ _ HT.out).mono ?_); rintro e w' ⟨rfl, rfl⟩)
    | (go_at_call 35; (with_reducible refine (start_any _ _ (by omega) (by omega)).mono ?_); rintro e w' ⟨rfl, rfl⟩)
    | (go_at_call 36; (with_reducible refine (before_any _ _ _ HT.out (by omega) (by omega)).mono ?_); rintro e w' ⟨rfl, rfl⟩))
  go_returns
  exact ⟨ret_int2 R.out rfl, rfl⟩

theorem days_err (y m d : Int) (w : World) (hT : Tab w) (h : ¬ (-9999 ≤ y ∧ y ≤ 9999 ∧ 1 ≤ d ∧ d ≤ Cal.len y m)) :
    Calls Tryd.prog 18 #[.int .i64 y, .int .i64 m, .int .i64 d] w fun e w' => e = .returned (.tuple #[.int .i64 0, .int .i64 30]) ∧ w = w' := by
  have HT := Lib.hid hT
  clear hT
  by_cases c1 : y < -9999
  · clear h
    go_enter Tryd.func18, Tryd.ntmps18
    go_wp2
    go_returns
    exact ⟨rfl, rfl⟩
  · by_cases c2 : 9999 < y
    · clear h
      go_enter Tryd.func18, Tryd.ntmps18
      go_wp2
      go_returns
      exact ⟨rfl, rfl⟩
    · by_cases c3 : d < 1
      · clear h
        go_enter Tryd.func18, Tryd.ntmps18
        go_wp2
        go_returns
        exact ⟨rfl, rfl⟩
      · have c4 : Cal.len y m < d := by omega
        clear h
        go_enter Tryd.func18, Tryd.ntmps18
        go_wp2_with (first
          | (go_at_call 34; (with_reducible refine (length_any _ _ _ HT.out).mono ?_); rintro e w' ⟨rfl, rfl⟩))
        go_returns
        exact ⟨rfl, rfl⟩
end Go.Proofs.YtacpcokmgahjaaaDoor
