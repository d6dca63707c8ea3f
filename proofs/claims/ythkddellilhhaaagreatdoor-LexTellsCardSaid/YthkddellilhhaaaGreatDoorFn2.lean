/- Contracts of the functions of package civil: Days, Date. -/
import Derived.Test.YthkddellilhhaaaGreatDoorFn
namespace Go.Proofs.YthkddellilhhaaaGreatDoor
set_option linter.unusedVariables false
open Go.ChangeShapes Go.WideShapes Go.ChangeAt Go.RowKit

theorem days_ok (y m d : Int) (w : World) (hT : Tab w) (hy1 : -9999 ≤ y) (hy2 : y ≤ 9999) (hd1 : 1 ≤ d) (hd2 : d ≤ Cal.len y m) :
    Calls Tryz.prog 91 #[.int .i64 y, .int .i64 m, .int .i64 d] w fun e w' => e = .returned (.tuple #[.int .i64 (Cal.num y m d), .int .i64 0]) ∧ w = w' := by
  have hm : 1 ≤ m ∧ m ≤ 12 := by
    by_cases c : 1 ≤ m ∧ m ≤ 12
    · exact c
    · rw [Cal.len_out y m c] at hd2; omega
  obtain ⟨hm1, hm2⟩ := hm
  obtain ⟨l1, l2⟩ := Cal.len_bd y m hm1 hm2
  obtain ⟨b1, b2⟩ := Cal.bef_bd y m hm1 (by omega)
  obtain ⟨s1, s2⟩ := Cal.start_bd y hy1 (by omega)
  have R := Lib.hid (show Cal.start y + (Cal.bef y m + d - 1) = Cal.num y m d by unfold Cal.num; omega)
  have HT := Lib.hid hT
  clear hT
  go_enter Tryz.func91, Tryz.ntmps91
  go_wp2_with (first
    | (go_at_call 111; (with_reducible refine (length_any _ _ _ HT.out).mono ?_); rintro e w' ⟨rfl, rfl⟩)
    | (go_at_call 53; (with_reducible refine (start_any _ _ (by omega) (by omega)).mono ?_); rintro e w' ⟨rfl, rfl⟩)
    | (go_at_call 54; (with_reducible refine (before_any _ _ _ HT.out (by omega) (by omega)).mono ?_); rintro e w' ⟨rfl, rfl⟩))
  go_returns
  exact ⟨ret_int2 R.out rfl, rfl⟩

theorem days_err (y m d : Int) (w : World) (hT : Tab w) (h : ¬ (-9999 ≤ y ∧ y ≤ 9999 ∧ 1 ≤ d ∧ d ≤ Cal.len y m)) :
    Calls Tryz.prog 91 #[.int .i64 y, .int .i64 m, .int .i64 d] w fun e w' => e = .returned (.tuple #[.int .i64 0, .int .i64 30]) ∧ w = w' := by
  have HT := Lib.hid hT
  clear hT
  by_cases c1 : y < -9999
  · clear h
    go_enter Tryz.func91, Tryz.ntmps91
    go_wp2
    go_returns
    exact ⟨rfl, rfl⟩
  · by_cases c2 : 9999 < y
    · clear h
      go_enter Tryz.func91, Tryz.ntmps91
      go_wp2
      go_returns
      exact ⟨rfl, rfl⟩
    · by_cases c3 : d < 1
      · clear h
        go_enter Tryz.func91, Tryz.ntmps91
        go_wp2
        go_returns
        exact ⟨rfl, rfl⟩
      · have c4 : Cal.len y m < d := by omega
        clear h
        go_enter Tryz.func91, Tryz.ntmps91
        go_wp2_with (first
          | (go_at_call 111; (with_reducible refine (length_any _ _ _ HT.out).mono ?_); rintro e w' ⟨rfl, rfl⟩))
        go_returns
        exact ⟨rfl, rfl⟩

theorem start_lo (w : World) : Calls Tryz.prog 53 #[.int .i64 (-9999)] w fun e w' => e = .returned (.int .i64 (-4371587)) ∧ w = w' :=
  start_any (-9999) w (by omega) (by omega)
theorem start_hi (w : World) : Calls Tryz.prog 53 #[.int .i64 10000] w fun e w' => e = .returned (.int .i64 2932897) ∧ w = w' :=
  start_any 10000 w (by omega) (by omega)

theorem date_err (n : Int) (w : World) (h : ¬ (-4371587 ≤ n ∧ n < 2932897)) :
    Calls Tryz.prog 36 #[.int .i64 n] w fun e w' => e = .returned (.tuple #[.int .i64 0, .int .i64 0, .int .i64 0, .int .i64 30]) ∧ w = w' := by
  by_cases c1 : n < -4371587
  · clear h
    go_enter Tryz.func36, Tryz.ntmps36
    go_wp2_with (first
      | (go_at_call 53; (with_reducible refine (start_lo _).mono ?_); rintro e w' ⟨rfl, rfl⟩))
    go_returns
    exact ⟨rfl, rfl⟩
  · have c2 : 2932897 ≤ n := by omega
    clear h
    go_enter Tryz.func36, Tryz.ntmps36
    go_wp2_with (first
      | (go_at_call 53; (with_reducible refine (start_lo _).mono ?_); rintro e w' ⟨rfl, rfl⟩)
      | (go_at_call 53; (with_reducible refine (start_hi _).mono ?_); rintro e w' ⟨rfl, rfl⟩))
    go_returns
    exact ⟨rfl, rfl⟩

/-- What Date answers: some date, and that it has the number. -/
def DateOf (n : Int) (e : Ending) : Prop := ∃ y m d : Int, e = .returned (.tuple #[.int .i64 y, .int .i64 m, .int .i64 d, .int .i64 0]) ∧ -9999 ≤ y ∧ y ≤ 9999 ∧ 1 ≤ m ∧ m ≤ 12 ∧ 1 ≤ d ∧ d ≤ Cal.len y m ∧ Cal.num y m d = n

set_option maxHeartbeats 1000000 in
theorem date_ok (n : Int) (w : World) (hT : Tab w) (h1 : -4371587 ≤ n) (h2 : n < 2932897) :
    Calls Tryz.prog 36 #[.int .i64 n] w fun e w' => DateOf n e ∧ w = w' := by
  have G := Cal.guess n h1 h2
  obtain ⟨g, hg⟩ : ∃ g, g = (n + 719528 + 3652425) * 400 / 146097 - 10000 := ⟨_, rfl⟩
  rw [← hg] at G
  obtain ⟨G1, G2, G3, G4⟩ := G
  have HG := Lib.hid hg
  clear hg
  have HT := Lib.hid hT
  clear hT
  go_enter Tryz.func36, Tryz.ntmps36
  go_wp2_with (first
      | (go_at_call 53; (with_reducible refine (start_lo _).mono ?_); rintro e w' ⟨rfl, rfl⟩)
      | (go_at_call 53; (with_reducible refine (start_hi _).mono ?_); rintro e w' ⟨rfl, rfl⟩))
  rw [← HG.out]
  clear HG
  refine (start_any _ _ (by omega) (by omega)).mono ?_
  rintro e w' ⟨rfl, rfl⟩
  by_cases cA : n < Cal.start g
  · go_wp2_with fail
    refine (start_any _ _ (by omega) (by omega)).mono ?_
    rintro e w' ⟨rfl, rfl⟩
    go_wp2_with fail
    have lo := G1
    have hi : n < Cal.start (g - 1 + 1) := by rw [show g - 1 + 1 = g from by omega]; exact cA
    obtain ⟨y, hy⟩ : ∃ y, y = g - 1 := ⟨_, rfl⟩
    rw [← hy] at lo hi ⊢
    have yb : -9999 ≤ y ∧ y ≤ 9999 := by
      refine ⟨?_, ?_⟩
      · by_cases c : -9999 ≤ y
        · exact c
        · have := Cal.start_mono (y + 1) (-9999) (by omega)
          have e : Cal.start (-9999) = -4371587 := by decide
          omega
      · by_cases c : y ≤ 9999
        · exact c
        · have := Cal.start_mono 10000 y (by omega)
          have e : Cal.start 10000 = 2932897 := by decide
          omega
    obtain ⟨yb1, yb2⟩ := yb
    have ys := Cal.start_succ y
    rw [ys] at hi
    have hl := Cal.bef_last y
    obtain ⟨l1, l2⟩ := Cal.lp_01 y
    obtain ⟨sb1, sb2⟩ := Cal.start_bd y yb1 (by omega)
    clear hy G1 G2 G3 G4 ys
    have HL := Lib.hid hl
    clear hl
    refine (start_any _ _ (by omega) (by omega)).mono ?_
    rintro e w' ⟨rfl, rfl⟩
    go_wp2_with fail
    have b1 := Lib.hid (Cal.bef_one y)
    go_loop [8] (fun v => ∃ m : Int, 1 ≤ m ∧ m ≤ 12 ∧ v = .int .i64 m ∧ Cal.bef y m ≤ n - Cal.start y) (fun v => (12 - intOf v).toNat)
    case atStart => exact ⟨1, by omega, by omega, rfl, by rw [b1.out]; omega⟩
    case round =>
      obtain ⟨m, hm1, hm2, rfl, hb⟩ := hrel
      obtain ⟨c1, c2⟩ := Cal.bef_bd y m hm1 (by omega)
      obtain ⟨c3, c4⟩ := Cal.bef_bd y (m + 1) (by omega) (by omega)
      have hlen := Lib.hid (Cal.len_is y m hm1 hm2)
      by_cases hc : Cal.bef y (m + 1) ≤ n - Cal.start y
      · have hm3 : m < 12 := by
          by_cases h : m = 12
          · have h13 := HL.out
            rw [h] at hc
            have : Cal.bef y (12 + 1) = Cal.bef y 13 := rfl
            omega
          · omega
        go_wp2_with (first
          | (go_at_call 54; (with_reducible refine (before_any _ _ _ HT.out (by omega) (by omega)).mono ?_); rintro e w' ⟨rfl, rfl⟩))
        go_round
        case rel => exact ⟨m + 1, by omega, by omega, rfl, hc⟩
        case measure => simp [intOf]; omega
      · go_wp2_with (first
          | (go_at_call 54; (with_reducible refine (before_any _ _ _ HT.out (by omega) (by omega)).mono ?_); rintro e w' ⟨rfl, rfl⟩))
        go_returns
        exact ⟨⟨y, m, _, rfl, yb1, yb2, hm1, hm2, by omega, by have := hlen.out; omega, by unfold Cal.num; omega⟩, rfl⟩

  · go_wp2_with fail
    refine (start_any _ _ (by omega) (by omega)).mono ?_
    rintro e w' ⟨rfl, rfl⟩
    by_cases cB : Cal.start (g + 1) ≤ n
    · go_wp2_with fail
      have lo := cB
      have hi : n < Cal.start (g + 1 + 1) := by rw [show g + 1 + 1 = g + 2 from by omega]; exact G2
      clear cA cB
      obtain ⟨y, hy⟩ : ∃ y, y = g + 1 := ⟨_, rfl⟩
      rw [← hy] at lo hi ⊢
      have yb : -9999 ≤ y ∧ y ≤ 9999 := by
        refine ⟨?_, ?_⟩
        · by_cases c : -9999 ≤ y
          · exact c
          · have := Cal.start_mono (y + 1) (-9999) (by omega)
            have e : Cal.start (-9999) = -4371587 := by decide
            omega
        · by_cases c : y ≤ 9999
          · exact c
          · have := Cal.start_mono 10000 y (by omega)
            have e : Cal.start 10000 = 2932897 := by decide
            omega
      obtain ⟨yb1, yb2⟩ := yb
      have ys := Cal.start_succ y
      rw [ys] at hi
      have hl := Cal.bef_last y
      obtain ⟨l1, l2⟩ := Cal.lp_01 y
      obtain ⟨sb1, sb2⟩ := Cal.start_bd y yb1 (by omega)
      clear hy G1 G2 G3 G4 ys
      have HL := Lib.hid hl
      clear hl
      refine (start_any _ _ (by omega) (by omega)).mono ?_
      rintro e w' ⟨rfl, rfl⟩
      go_wp2_with fail
      have b1 := Lib.hid (Cal.bef_one y)
      go_loop [8] (fun v => ∃ m : Int, 1 ≤ m ∧ m ≤ 12 ∧ v = .int .i64 m ∧ Cal.bef y m ≤ n - Cal.start y) (fun v => (12 - intOf v).toNat)
      case atStart => exact ⟨1, by omega, by omega, rfl, by rw [b1.out]; omega⟩
      case round =>
        obtain ⟨m, hm1, hm2, rfl, hb⟩ := hrel
        obtain ⟨c1, c2⟩ := Cal.bef_bd y m hm1 (by omega)
        obtain ⟨c3, c4⟩ := Cal.bef_bd y (m + 1) (by omega) (by omega)
        have hlen := Lib.hid (Cal.len_is y m hm1 hm2)
        by_cases hc : Cal.bef y (m + 1) ≤ n - Cal.start y
        · have hm3 : m < 12 := by
            by_cases h : m = 12
            · have h13 := HL.out
              rw [h] at hc
              have : Cal.bef y (12 + 1) = Cal.bef y 13 := rfl
              omega
            · omega
          go_wp2_with (first
            | (go_at_call 54; (with_reducible refine (before_any _ _ _ HT.out (by omega) (by omega)).mono ?_); rintro e w' ⟨rfl, rfl⟩))
          go_round
          case rel => exact ⟨m + 1, by omega, by omega, rfl, hc⟩
          case measure => simp [intOf]; omega
        · go_wp2_with (first
            | (go_at_call 54; (with_reducible refine (before_any _ _ _ HT.out (by omega) (by omega)).mono ?_); rintro e w' ⟨rfl, rfl⟩))
          go_returns
          exact ⟨⟨y, m, _, rfl, yb1, yb2, hm1, hm2, by omega, by have := hlen.out; omega, by unfold Cal.num; omega⟩, rfl⟩

    · go_wp2_with fail
      have lo : Cal.start g ≤ n := by omega
      have hi : n < Cal.start (g + 1) := by omega
      clear cA cB
      obtain ⟨y, hy⟩ : ∃ y, y = g := ⟨_, rfl⟩
      rw [← hy] at lo hi ⊢
      have yb : -9999 ≤ y ∧ y ≤ 9999 := by
        refine ⟨?_, ?_⟩
        · by_cases c : -9999 ≤ y
          · exact c
          · have := Cal.start_mono (y + 1) (-9999) (by omega)
            have e : Cal.start (-9999) = -4371587 := by decide
            omega
        · by_cases c : y ≤ 9999
          · exact c
          · have := Cal.start_mono 10000 y (by omega)
            have e : Cal.start 10000 = 2932897 := by decide
            omega
      obtain ⟨yb1, yb2⟩ := yb
      have ys := Cal.start_succ y
      rw [ys] at hi
      have hl := Cal.bef_last y
      obtain ⟨l1, l2⟩ := Cal.lp_01 y
      obtain ⟨sb1, sb2⟩ := Cal.start_bd y yb1 (by omega)
      clear hy G1 G2 G3 G4 ys
      have HL := Lib.hid hl
      clear hl
      refine (start_any _ _ (by omega) (by omega)).mono ?_
      rintro e w' ⟨rfl, rfl⟩
      go_wp2_with fail
      have b1 := Lib.hid (Cal.bef_one y)
      go_loop [8] (fun v => ∃ m : Int, 1 ≤ m ∧ m ≤ 12 ∧ v = .int .i64 m ∧ Cal.bef y m ≤ n - Cal.start y) (fun v => (12 - intOf v).toNat)
      case atStart => exact ⟨1, by omega, by omega, rfl, by rw [b1.out]; omega⟩
      case round =>
        obtain ⟨m, hm1, hm2, rfl, hb⟩ := hrel
        obtain ⟨c1, c2⟩ := Cal.bef_bd y m hm1 (by omega)
        obtain ⟨c3, c4⟩ := Cal.bef_bd y (m + 1) (by omega) (by omega)
        have hlen := Lib.hid (Cal.len_is y m hm1 hm2)
        by_cases hc : Cal.bef y (m + 1) ≤ n - Cal.start y
        · have hm3 : m < 12 := by
            by_cases h : m = 12
            · have h13 := HL.out
              rw [h] at hc
              have : Cal.bef y (12 + 1) = Cal.bef y 13 := rfl
              omega
            · omega
          go_wp2_with (first
            | (go_at_call 54; (with_reducible refine (before_any _ _ _ HT.out (by omega) (by omega)).mono ?_); rintro e w' ⟨rfl, rfl⟩))
          go_round
          case rel => exact ⟨m + 1, by omega, by omega, rfl, hc⟩
          case measure => simp [intOf]; omega
        · go_wp2_with (first
            | (go_at_call 54; (with_reducible refine (before_any _ _ _ HT.out (by omega) (by omega)).mono ?_); rintro e w' ⟨rfl, rfl⟩))
          go_returns
          exact ⟨⟨y, m, _, rfl, yb1, yb2, hm1, hm2, by omega, by have := hlen.out; omega, by unfold Cal.num; omega⟩, rfl⟩

end Go.Proofs.YthkddellilhhaaaGreatDoor
