/- Contracts of the document's own answer for layer 4: Week. -/
import Derived.Test.YthkddellilhhaaaGreatDoorR2
namespace Go.Proofs.YthkddellilhhaaaGreatDoor
set_option linter.unusedVariables false
set_option linter.unusedSimpArgs false
open Go.ChangeShapes Go.WideShapes Go.ChangeAt Go.RowKit

theorem op_up (k Y : Int) (h1 : -9999 ≤ k) (h2 : k ≤ Y) (h3 : Y ≤ 10000) : Cal.op k ≤ Cal.op Y := by
  rcases (show k = Y ∨ k < Y by omega) with c | c
  · subst c; exact Int.le_refl _
  · have a := Cal.op_mono k Y h1 c h3
    have b := Cal.op_next k h1 (by omega)
    have w := Cal.weeks_bd k
    omega

/-- The year of a week is that of its Thursday, or one beside a day's own. -/
theorem near (n y Y : Int) (hy : Cal.start y ≤ n ∧ n < Cal.start (y + 1)) (hY : Cal.op Y ≤ n ∧ n < Cal.op (Y + 1)) : y - 1 ≤ Y ∧ Y ≤ y + 1 := by
  have o1 : Cal.start Y ≤ Cal.op Y + 3 ∧ Cal.op Y + 3 < Cal.start Y + 7 := by unfold Cal.op Cal.wd; omega
  have o2 : Cal.start (Y + 1) ≤ Cal.op (Y + 1) + 3 ∧ Cal.op (Y + 1) + 3 < Cal.start (Y + 1) + 7 := by unfold Cal.op Cal.wd; omega
  constructor
  · rcases (show y - 1 ≤ Y ∨ Y + 1 ≤ y - 1 by omega) with c | c
    · exact c
    · have a := Cal.start_mono (Y + 1) (y - 1) c
      have b := Cal.start_mono (y - 1) y (by omega)
      omega
  · rcases (show Y ≤ y + 1 ∨ y + 2 ≤ Y by omega) with c | c
    · exact c
    · have a := Cal.start_mono (y + 2) Y c
      have b := Cal.start_mono (y + 1) (y + 2) (by omega)
      omega

set_option maxHeartbeats 4000000 in
theorem rweek_ok (n Y : Int) (w : World) (h1 : -9999 ≤ Y) (h2 : Y ≤ 9999) (a : Cal.op Y ≤ n) (b : n < Cal.op (Y + 1)) (c : -4371587 ≤ n) (d : n < 2932897) :
    Calls Tryz.prog 43 #[.int .i64 n] w fun e w' => e = .returned (.tuple #[.int .i64 Y, .int .i64 ((n - Cal.op Y) / 7 + 1), .int .i64 (Cal.wd n), .int .i64 0]) ∧ w = w' := by
  obtain ⟨y, m, dd, v, e⟩ := Cal.some_date n c d
  have wi := v.within
  rw [e] at wi
  have nr := near n y Y ⟨wi.1, wi.2.1⟩ ⟨a, b⟩
  have D := fun w => rdate_num y m dd w v
  rw [e] at D
  have D := Lib.hid D
  have y1 := v.y1
  have y2 := v.y2
  have W := Lib.hid (Cal.op_wd Y n)
  have OU := Lib.hid (fun k h1 h2 => op_up k Y h1 h2 (by omega))
  clear v e wi
  go_enter Tryz.func43, Tryz.ntmps43
  go_wp2_with (go_at_call 39; (with_reducible refine (D.out _).mono ?_); rintro e w' ⟨rfl, rfl⟩)
  go_loopw [10] (fun kk wr => wr = w ∧ ∃ k : Int, kk = .int .i64 k ∧ y - 1 ≤ k ∧ k ≤ Y) (fun kk _ => (20000 - intOf kk).toNat)
  case atStart => exact ⟨rfl, _, rfl, by omega, by omega⟩
  case round =>
    obtain ⟨rfl, k, rfl, k1, k2⟩ := hrel
    have t0 : k ≤ y + 1 := by omega
    by_cases ky : k = Y
    · subst ky
      have I := Lib.hid (fun w => inside_yes k w h1 h2)
      have F1 := Lib.hid (fun w => rfirst_any k w (by omega) (by omega))
      have F2 := Lib.hid (fun w => rfirst_any (k + 1) w (by omega) (by omega))
      have ob := Cal.op_bd k h1 h2
      obtain ⟨ob1, ob2⟩ := ob
      have q0 : 0 ≤ n - Cal.op k := by omega
      have R1 := Lib.hid (show (n - Cal.op k).tdiv 7 + 1 = (n - Cal.op k) / 7 + 1 by rw [Int.tdiv_eq_ediv_of_nonneg q0])
      have R2 := Lib.hid (show (n - Cal.op k).tmod 7 + 1 = Cal.wd n by rw [Int.tmod_eq_emod_of_nonneg q0]; exact W.out)
      have R3 := W.out
      have R3 := Lib.hid R3
      have tb : (n - Cal.op k) / 7 ≤ 2000000 := by omega
      have tb0 : 0 ≤ (n - Cal.op k) / 7 := by omega
      have tm : (n - Cal.op k) % 7 ≤ 6 := by omega
      have tm0 : 0 ≤ (n - Cal.op k) % 7 := by omega
      have ql : n - Cal.op k ≤ 9000000 := by omega
      clear nr OU
      go_wp2_with (first
        | (go_at_call 60; (with_reducible refine (I.out _).mono ?_); rintro e w' ⟨rfl, rfl⟩)
        | (go_at_call 61; (with_reducible refine (F1.out _).mono ?_); rintro e w' ⟨rfl, rfl⟩)
        | (go_at_call 61; (with_reducible refine (F2.out _).mono ?_); rintro e w' ⟨rfl, rfl⟩))
      go_returns
      exact ⟨ret_int4' rfl (by first | rfl | exact R1.out) (by first | rfl | exact R3.out | exact R2.out) rfl, rfl⟩
    · have k3 : k < Y := by omega
      by_cases ki : -9999 ≤ k
      · have I := Lib.hid (fun w => inside_yes k w ki (by omega))
        have F1 := Lib.hid (fun w => rfirst_any k w (by omega) (by omega))
        have F2 := Lib.hid (fun w => rfirst_any (k + 1) w (by omega) (by omega))
        have u1 := OU.out k ki k2
        have u2 := OU.out (k + 1) (by omega) (by omega)
        have g1 : Cal.op k ≤ n := by omega
        have g2 : ¬ n < Cal.op (k + 1) := by omega
        clear nr OU u1 u2 ky
        go_wp2_with (first
          | (go_at_call 60; (with_reducible refine (I.out _).mono ?_); rintro e w' ⟨rfl, rfl⟩)
          | (go_at_call 61; (with_reducible refine (F1.out _).mono ?_); rintro e w' ⟨rfl, rfl⟩)
          | (go_at_call 61; (with_reducible refine (F2.out _).mono ?_); rintro e w' ⟨rfl, rfl⟩))
        all_goals go_roundw
        case rel => exact ⟨trivial, _, rfl, by omega, by omega⟩
        case measure => simp [intOf]; omega
      · have I := Lib.hid (fun w => inside_no k w (by omega))
        clear nr OU ky
        go_wp2_with (go_at_call 60; (with_reducible refine (I.out _).mono ?_); rintro e w' ⟨rfl, rfl⟩)
        all_goals go_roundw
        case rel => exact ⟨trivial, _, rfl, by omega, by omega⟩
        case measure => simp [intOf]; omega

set_option maxHeartbeats 4000000 in
theorem rweek_no (n : Int) (w : World) (h : ¬ (-4371587 ≤ n ∧ n < 2932897 ∧ -4371587 ≤ n - Cal.wd n + 4 ∧ n - Cal.wd n + 4 < 2932897)) :
    Calls Tryz.prog 43 #[.int .i64 n] w fun e w' => e = .returned (.tuple #[.int .i64 0, .int .i64 0, .int .i64 0, .int .i64 30]) ∧ w = w' := by
  by_cases r : -4371587 ≤ n ∧ n < 2932897
  · obtain ⟨y, m, dd, v, e⟩ := Cal.some_date n r.1 r.2
    have D := fun w => rdate_num y m dd w v
    rw [e] at D
    have D := Lib.hid D
    have y1 := v.y1
    have y2 := v.y2
    have N : ∀ k, -9999 ≤ k → k ≤ 9999 → ¬ (Cal.op k ≤ n ∧ n < Cal.op (k + 1)) := by
      intro k a1 a2 ⟨b1, b2⟩
      have ow := Cal.op_wd k n
      have o1 : Cal.start k ≤ Cal.op k + 3 ∧ Cal.op k + 3 < Cal.start k + 7 := by unfold Cal.op Cal.wd; omega
      have o2 : Cal.start (k + 1) ≤ Cal.op (k + 1) + 3 ∧ Cal.op (k + 1) + 3 < Cal.start (k + 1) + 7 := by unfold Cal.op Cal.wd; omega
      have on := Cal.op_next k a1 a2
      have s1 : -4371587 ≤ Cal.start k := by unfold Cal.start; omega
      have s2 : Cal.start (k + 1) ≤ 2932897 := by unfold Cal.start; omega
      exact h ⟨r.1, r.2, by omega, by omega⟩
    have N := Lib.hid N
    clear v e h r
    go_enter Tryz.func43, Tryz.ntmps43
    go_wp2_with (go_at_call 39; (with_reducible refine (D.out _).mono ?_); rintro e w' ⟨rfl, rfl⟩)
    go_loopw [10] (fun kk wr => wr = w ∧ ∃ k : Int, kk = .int .i64 k ∧ y - 1 ≤ k ∧ k ≤ y + 2) (fun kk _ => (20000 - intOf kk).toNat)
    case atStart => exact ⟨rfl, _, rfl, by omega, by omega⟩
    case round =>
      obtain ⟨rfl, k, rfl, k1, k2⟩ := hrel
      by_cases kl : k ≤ y + 1
      · by_cases ki : -9999 ≤ k ∧ k ≤ 9999
        · have I := Lib.hid (fun w => inside_yes k w ki.1 ki.2)
          have F1 := Lib.hid (fun w => rfirst_any k w (by omega) (by omega))
          have F2 := Lib.hid (fun w => rfirst_any (k + 1) w (by omega) (by omega))
          have nn := N.out k ki.1 ki.2
          by_cases g : Cal.op k ≤ n
          · have g2 : ¬ n < Cal.op (k + 1) := fun x => nn ⟨g, x⟩
            clear nn ki
            go_wp2_with (first
              | (go_at_call 60; (with_reducible refine (I.out _).mono ?_); rintro e w' ⟨rfl, rfl⟩)
              | (go_at_call 61; (with_reducible refine (F1.out _).mono ?_); rintro e w' ⟨rfl, rfl⟩)
              | (go_at_call 61; (with_reducible refine (F2.out _).mono ?_); rintro e w' ⟨rfl, rfl⟩))
            all_goals go_roundw
            case rel => exact ⟨trivial, _, rfl, by omega, by omega⟩
            case measure => simp [intOf]; omega
          · clear nn ki
            go_wp2_with (first
              | (go_at_call 60; (with_reducible refine (I.out _).mono ?_); rintro e w' ⟨rfl, rfl⟩)
              | (go_at_call 61; (with_reducible refine (F1.out _).mono ?_); rintro e w' ⟨rfl, rfl⟩))
            all_goals go_roundw
            case rel => exact ⟨trivial, _, rfl, by omega, by omega⟩
            case measure => simp [intOf]; omega
        · have I := Lib.hid (fun w => inside_no k w ki)
          clear ki
          go_wp2_with (go_at_call 60; (with_reducible refine (I.out _).mono ?_); rintro e w' ⟨rfl, rfl⟩)
          all_goals go_roundw
          case rel => exact ⟨trivial, _, rfl, by omega, by omega⟩
          case measure => simp [intOf]; omega
      · go_wp2
        go_returns
        exact ⟨rfl, rfl⟩
  · have D := Lib.hid (fun w => rdate_err n w r)
    clear h r
    go_enter Tryz.func43, Tryz.ntmps43
    go_wp2_with (go_at_call 39; (with_reducible refine (D.out _).mono ?_); rintro e w' ⟨rfl, rfl⟩)
    go_returns
    exact ⟨rfl, rfl⟩
end Go.Proofs.YthkddellilhhaaaGreatDoor
