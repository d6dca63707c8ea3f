/- DateWeeks: the law, put together. -/
import Derived.Test.YtmffagkgkbdkjaaDoorWeeksW
namespace Go.Proofs.YtmffagkgkbdkjaaDoor
set_option linter.unusedVariables false
open Go.ChangeShapes Go.WideShapes Go.ChangeAt Go.RowKit

abbrev WeekIs (n a b c d : Int) : Prop := Hid (∀ w, Tab w → Calls Tryd.prog 9 #[.int .i64 n] w fun e w' => e = .returned (.tuple #[.int .i64 a, .int .i64 b, .int .i64 c, .int .i64 d]) ∧ w = w')
abbrev DaysIs (y m d a b : Int) : Prop := Hid (∀ w, Tab w → Calls Tryd.prog 24 #[.int .i64 y, .int .i64 m, .int .i64 d] w fun e w' => e = .returned (.tuple #[.int .i64 a, .int .i64 b]) ∧ w = w')
abbrev WeeksIs (y a : Int) : Prop := Hid (∀ w, Tab w → Calls Tryd.prog 13 #[.int .i64 y] w fun e w' => e = .returned (.int .i64 a) ∧ w = w')

theorem week_some (m : Int) : ∃ z v c f, WeekIs m z v c f := by
  by_cases r : -4371587 ≤ m ∧ m < 2932897
  · rcases week_cases m (by omega) (by omega) with ⟨Y, _, _, _, _, _, _, _, _, H⟩ | ⟨_, H⟩
    · exact ⟨_, _, _, _, H⟩
    · exact ⟨_, _, _, _, H⟩
  · exact ⟨_, _, _, _, Lib.hid fun w hT => week_out m w hT r⟩

theorem sec (y : Int) : (DaysIs y 1 4 0 30 ∧ DaysIs y 12 28 0 30 ∧ WeeksIs y 0) ∨
    (∃ a b u t, DaysIs y 1 4 a 0 ∧ DaysIs y 12 28 b 0 ∧ WeekIs a y 1 u 0 ∧ ((WeekIs b y 52 t 0 ∧ WeeksIs y 52) ∨ (WeekIs b y 53 t 0 ∧ WeeksIs y 53))) := by
  by_cases c : -9999 ≤ y ∧ y ≤ 9999
  · obtain ⟨h1, h2⟩ := c
    have D1 := fun w hT => days_valid y 1 4 w hT (Cal.valid_day y 4 h1 h2 (by omega) (by omega))
    simp only [Cal.fourth] at D1
    have D2 := fun w hT => days_valid y 12 28 w hT (Cal.valid_dec y 28 h1 h2 (by omega) (by omega))
    simp only [Cal.last28] at D2
    have K := fun w hT => weeks_any y w hT
    have sb := Cal.start_bd y h1 (by omega)
    have se := Cal.start_succ y
    have l := Cal.lp_01 y
    have on := Cal.op_next y h1 h2
    have r1 : -4371587 ≤ Cal.start y := by unfold Cal.start; omega
    have r2 : Cal.start (y + 1) ≤ 2932897 := by unfold Cal.start; omega
    have a1 : Cal.op y ≤ Cal.start y + 3 ∧ Cal.start y + 3 < Cal.op y + 7 := by unfold Cal.op Cal.wd; omega
    have b1 : Cal.op (y + 1) - 7 ≤ Cal.start (y + 1) - 4 ∧ Cal.start (y + 1) - 4 < Cal.op (y + 1) := by unfold Cal.op Cal.wd; omega
    have w1 := Cal.wd_bd (Cal.start y + 3)
    have w2 := Cal.wd_bd (Cal.start (y + 1) - 4)
    have W := Cal.weeks_bd y
    have W' : Cal.weeks y = 52 ∨ Cal.weeks y = 53 := by unfold Cal.weeks; rw [if_pos ⟨h1, h2⟩]; split <;> simp
    have W3 := fun w hT => week_at (Cal.start y + 3) y w hT h1 h2 a1.1 (by omega) (by omega) (by omega) (by omega) (by omega)
    have W4 := fun w hT => week_at (Cal.start (y + 1) - 4) y w hT h1 h2 (by omega) b1.2 (by omega) (by omega) (by omega) (by omega)
    rw [show (Cal.start y + 3 - Cal.op y) / 7 + 1 = 1 by omega] at W3
    rcases W' with e | e
    · rw [show (Cal.start (y + 1) - 4 - Cal.op y) / 7 + 1 = 52 by omega] at W4
      rw [e] at K
      exact .inr ⟨_, _, _, _, Lib.hid D1, Lib.hid D2, Lib.hid W3, .inl ⟨Lib.hid W4, Lib.hid K⟩⟩
    · rw [show (Cal.start (y + 1) - 4 - Cal.op y) / 7 + 1 = 53 by omega] at W4
      rw [e] at K
      exact .inr ⟨_, _, _, _, Lib.hid D1, Lib.hid D2, Lib.hid W3, .inr ⟨Lib.hid W4, Lib.hid K⟩⟩
  · have K := fun w hT => weeks_any y w hT
    rw [show Cal.weeks y = 0 by unfold Cal.weeks; rw [if_neg c]] at K
    exact .inl ⟨Lib.hid fun w hT => days_not y 1 4 w hT (fun v => c ⟨v.y1, v.y2⟩), Lib.hid fun w hT => days_not y 12 28 w hT (fun v => c ⟨v.y1, v.y2⟩), Lib.hid K⟩

theorem weeks_law (n y : Int) (w : World) (hT : Tabs w) (n0 : -9223372036854775808 ≤ n) (n1 : n ≤ 9223372036854775807) (y0 : -9223372036854775808 ≤ y) (y1 : y ≤ 9223372036854775807) :
    Calls Tryd.prog 5 #[.int .i64 n, .int .i64 y] w fun e w' => e = .returned (.bool true) ∧ Below w.heap.size w w' := by
  obtain ⟨m, hm⟩ : ∃ m, (n = 9223372036854775807 ∧ m = wrap64 9223372036854775808) ∨ (-9223372036854775808 ≤ n ∧ n < 9223372036854775807 ∧ m = n + 1) := by
    by_cases c : n = 9223372036854775807
    · exact ⟨_, .inl ⟨c, rfl⟩⟩
    · exact ⟨_, .inr ⟨n0, by omega, rfl⟩⟩
  have S := sec y
  have A : WeekIs n 0 0 0 30 → Calls Tryd.prog 5 #[.int .i64 n, .int .i64 y] w fun e w' => e = .returned (.bool true) ∧ Below w.heap.size w w' := by
    intro W1
    obtain ⟨z, v, c, f, W2⟩ := week_some m
    rcases S with ⟨F1, F2, K⟩ | ⟨a, b, u, t, F1, F2, W3, ⟨W4, K⟩ | ⟨W4, K⟩⟩
    · exact walkAo n m y hm z v c f W1 W2 F1 F2 K w hT
    · exact walkA52 n m y hm z v c f a b u t W1 W2 F1 F2 W3 W4 K w hT
    · exact walkA53 n m y hm z v c f a b u t W1 W2 F1 F2 W3 W4 K w hT
  by_cases r : -4371587 ≤ n ∧ n < 2932897
  · have hm' : m = n + 1 := by omega
    rcases week_cases n (by omega) (by omega) with ⟨Y, y1, y2, _, _, a, b, _, _, W1⟩ | ⟨_, W1⟩
    · rcases week_cases m (by omega) (by omega) with ⟨Z, z1, z2, _, _, a', b', _, _, W2⟩ | ⟨_, W2⟩
      · have on := Cal.op_next Y y1 y2
        have ow := Cal.op_wd Y n
        have wb := Cal.wd_bd n
        have wn : Cal.wd m = Cal.wd n % 7 + 1 := by rw [hm']; unfold Cal.wd; omega
        have wk := Cal.weeks_bd Y
        by_cases c1 : Cal.wd n < 7
        · have e : Z = Y := (Cal.op_one Y Z m y1 y2 z1 z2 (by omega) (by omega) a' b').symm
          subst e
          rw [show Cal.wd m = Cal.wd n + 1 by omega, show (m - Cal.op Z) / 7 + 1 = (n - Cal.op Z) / 7 + 1 by omega] at W2
          rcases S with ⟨F1, F2, K⟩ | ⟨a, b, u, t, F1, F2, W3, ⟨W4, K⟩ | ⟨W4, K⟩⟩
          · exact walkCo n m y hm Z _ _ wb.1 c1 W1 W2 F1 F2 K w hT
          · exact walkC52 n m y hm Z _ _ a b u t wb.1 c1 W1 W2 F1 F2 W3 W4 K w hT
          · exact walkC53 n m y hm Z _ _ a b u t wb.1 c1 W1 W2 F1 F2 W3 W4 K w hT
        · have w7 : Cal.wd n = 7 := by omega
          have K1 : WeeksIs Y (Cal.weeks Y) := Lib.hid fun w hT => weeks_any Y w hT
          by_cases c2 : (n - Cal.op Y) / 7 + 1 < Cal.weeks Y
          · have e : Z = Y := (Cal.op_one Y Z m y1 y2 z1 z2 (by omega) (by omega) a' b').symm
            subst e
            rw [show Cal.wd m = 1 by omega, show (m - Cal.op Z) / 7 + 1 = (n - Cal.op Z) / 7 + 1 + 1 by omega] at W2
            rw [w7] at W1
            rcases S with ⟨F1, F2, K⟩ | ⟨a, b, u, t, F1, F2, W3, ⟨W4, K⟩ | ⟨W4, K⟩⟩
            · exact walkDo n m y hm Z _ _ (by omega) c2 wk.2 W1 W2 K1 F1 F2 K w hT
            · exact walkD52 n m y hm Z _ _ a b u t (by omega) c2 wk.2 W1 W2 K1 F1 F2 W3 W4 K w hT
            · exact walkD53 n m y hm Z _ _ a b u t (by omega) c2 wk.2 W1 W2 K1 F1 F2 W3 W4 K w hT
          · have mo : m = Cal.op (Y + 1) := by omega
            have e : Z = Y + 1 := by
              rcases (show Z = Y + 1 ∨ Z < Y + 1 ∨ Y + 1 < Z by omega) with e | e | e
              · exact e
              · rcases (show Z = Y ∨ Z < Y by omega) with e2 | e2
                · subst e2; omega
                · have := Cal.op_mono Z Y z1 e2 (by omega); omega
              · have := Cal.op_mono (Y + 1) Z (by omega) e (by omega)
                have := Cal.op_next (Y + 1) (by omega) (by omega)
                have h52 : 52 ≤ Cal.weeks (Y + 1) := by unfold Cal.weeks; rw [if_pos ⟨by omega, by omega⟩]; split <;> omega
                omega
            subst e
            rw [show Cal.wd m = 1 by omega, show (m - Cal.op (Y + 1)) / 7 + 1 = 1 by omega] at W2
            rw [w7] at W1
            rcases S with ⟨F1, F2, K⟩ | ⟨a, b, u, t, F1, F2, W3, ⟨W4, K⟩ | ⟨W4, K⟩⟩
            · exact walkEo n m y hm Y _ _ y1 y2 (by omega) W1 W2 K1 F1 F2 K w hT
            · exact walkE52 n m y hm Y _ _ a b u t y1 y2 (by omega) W1 W2 K1 F1 F2 W3 W4 K w hT
            · exact walkE53 n m y hm Y _ _ a b u t y1 y2 (by omega) W1 W2 K1 F1 F2 W3 W4 K w hT
      · rcases S with ⟨F1, F2, K⟩ | ⟨a, b, u, t, F1, F2, W3, ⟨W4, K⟩ | ⟨W4, K⟩⟩
        · exact walkBo n m y hm _ _ _ W1 W2 F1 F2 K w hT
        · exact walkB52 n m y hm _ _ _ a b u t W1 W2 F1 F2 W3 W4 K w hT
        · exact walkB53 n m y hm _ _ _ a b u t W1 W2 F1 F2 W3 W4 K w hT
    · exact A W1
  · exact A (Lib.hid fun w hT => week_out n w hT r)
end Go.Proofs.YtmffagkgkbdkjaaDoor
