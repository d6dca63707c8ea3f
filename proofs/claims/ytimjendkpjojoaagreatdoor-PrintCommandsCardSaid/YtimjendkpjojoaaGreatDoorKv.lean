/- Plain, Fn, Fn2, Fn3, Date, Date2, Nums in one. -/
import Derived.Test.YtimjendkpjojoaaGreatDoorRows
import Derived.WalkKit
import Derived.ProofKit
import Derived.OpenShut
import Derived.Outline
import Derived.Handy
import Derived.Deep.QuietTactic
import Derived.BigQuiet
import Derived.Lib.Hide
import Derived.Deep.DeepFit
namespace Go.Proofs.YtimjendkpjojoaaGreatDoor
set_option linter.unusedVariables false
open Go.ChangeShapes Go.WideShapes Go.ChangeAt Go.RowKit
namespace Cal
def leap (y : Int) : Bool := decide (y % 4 = 0 ∧ (y % 100 ≠ 0 ∨ y % 400 = 0))
/-- 1 in leap years, else 0. -/
def lp (y : Int) : Int := if y % 4 = 0 ∧ (y % 100 ≠ 0 ∨ y % 400 = 0) then 1 else 0
/-- Days before a month, 1 to 13, of a year that is no leap year. -/
def cum (m : Int) : Int := (367 * m - 362) / 12 - if 2 < m then 2 else 0
/-- Days before a month of a year. -/
def bef (y m : Int) : Int := (367 * m - 362) / 12 - if 2 < m then 2 - lp y else 0
def start (y : Int) : Int := (y + 10003) / 4 - (y + 10099) / 100 + (y + 10399) / 400 + (y + 10000) * 365 - 3652425 - 719528
def len (y m : Int) : Int := if 1 ≤ m ∧ m ≤ 12 then bef y (m + 1) - bef y m else 0
def num (y m d : Int) : Int := start y + bef y m + d - 1
def wd (n : Int) : Int := (n + 3) % 7 + 1

theorem lp_01 (y : Int) : 0 ≤ lp y ∧ lp y ≤ 1 := by unfold lp; split <;> omega
theorem lp_leap (y : Int) : lp y = if leap y = true then 1 else 0 := by
  unfold lp leap
  by_cases h : y % 4 = 0 ∧ (y % 100 ≠ 0 ∨ y % 400 = 0) <;> simp [h]
theorem start_succ (y : Int) : start (y + 1) = start y + 365 + lp y := by unfold start lp; split <;> omega
theorem start_mono (a b : Int) (h : a ≤ b) : start a + 365 * (b - a) ≤ start b := by unfold start; omega
theorem start_400 (y : Int) : start (y + 400) = start y + 146097 := by unfold start; omega
theorem lp_400 (y : Int) : lp (y + 400) = lp y := by unfold lp; congr 1; simp; omega
theorem bef_400 (y m : Int) : bef (y + 400) m = bef y m := by unfold bef; rw [lp_400]
theorem len_400 (y m : Int) : len (y + 400) m = len y m := by unfold len; rw [bef_400, bef_400]
theorem bef_one (y : Int) : bef y 1 = 0 := by unfold bef; omega
theorem bef_last (y : Int) : bef y 13 = 365 + lp y := by have := lp_01 y; unfold bef; simp; omega
theorem bef_bd (y m : Int) (h1 : 1 ≤ m) (h2 : m ≤ 13) : 0 ≤ bef y m ∧ bef y m ≤ 366 := by have := lp_01 y; unfold bef; split <;> omega
theorem bef_mono (y m k : Int) (h1 : 1 ≤ m) (h2 : m < k) (h3 : k ≤ 13) : bef y m + 28 ≤ bef y k := by
  have := lp_01 y
  unfold bef
  split <;> split <;> omega
theorem len_is (y m : Int) (h1 : 1 ≤ m) (h2 : m ≤ 12) : len y m = bef y (m + 1) - bef y m := by unfold len; rw [if_pos ⟨h1, h2⟩]
theorem len_out (y m : Int) (h : ¬ (1 ≤ m ∧ m ≤ 12)) : len y m = 0 := by unfold len; rw [if_neg h]
theorem len_bd (y m : Int) (h1 : 1 ≤ m) (h2 : m ≤ 12) : 28 ≤ len y m ∧ len y m ≤ 31 := by
  rw [len_is y m h1 h2]
  have := lp_01 y
  unfold bef
  split <;> split <;> omega
theorem start_bd (y : Int) (h1 : -9999 ≤ y) (h2 : y ≤ 10000) : -4371587 ≤ start y ∧ start y ≤ 2932897 := by unfold start; omega

/-- The first guess of the year of a day is that year, or one beside it. -/
theorem guess (n : Int) (h1 : -4371587 ≤ n) (h2 : n < 2932897) :
    start ((n + 719528 + 3652425) * 400 / 146097 - 10000 - 1) ≤ n ∧ n < start ((n + 719528 + 3652425) * 400 / 146097 - 10000 + 2) ∧
    -9999 ≤ (n + 719528 + 3652425) * 400 / 146097 - 10000 + 1 ∧ (n + 719528 + 3652425) * 400 / 146097 - 10000 ≤ 10000 := by
  unfold start
  omega

end Cal

theorem ret_int {k : IntKind} {a b : Int} (h : a = b) : Ending.returned (.int k a) = .returned (.int k b) := by rw [h]
theorem ret_bool {a b : Bool} (h : a = b) : Ending.returned (.bool a) = .returned (.bool b) := by rw [h]
theorem ret_int2 {k l : IntKind} {a b c d : Int} (h : a = b) (h' : c = d) : Ending.returned (.tuple #[.int k a, .int l c]) = .returned (.tuple #[.int k b, .int l d]) := by rw [h, h']

/-- The table of the days ahead of each month, as it lies in memory. -/
def Tab (w : World) : Prop := ∀ i : Nat, i < 13 → w.cell? ⟨9, i, none⟩ = some (.int .i64 (Cal.cum ((i : Int) + 1)))

theorem tmod_iff (y k : Int) (hk : 0 < k) : y.tmod k = 0 ↔ y % k = 0 :=
  ⟨fun h => Int.emod_eq_zero_of_dvd (Int.dvd_of_tmod_eq_zero h), fun h => Int.tmod_eq_zero_of_dvd (Int.dvd_of_emod_eq_zero h)⟩

theorem leap_any (y : Int) (w : World) :
    Calls Tryz.prog 111 #[.int .i64 y] w fun e w' => e = .returned (.bool (Cal.leap y)) ∧ w = w' := by
  have e4 := tmod_iff y 4 (by omega)
  have e100 := tmod_iff y 100 (by omega)
  have e400 := tmod_iff y 400 (by omega)
  by_cases c4 : y.tmod 4 = 0
  · have d4 : (y.tmod 4 == 0) = true := by simpa using c4
    by_cases c100 : y.tmod 100 = 0
    · have d100 : (y.tmod 100 != 0) = false := by simpa using c100
      by_cases c400 : y.tmod 400 = 0
      · have L := Lib.hid (show Cal.leap y = true by unfold Cal.leap; simp; omega)
        have d400 : (y.tmod 400 == 0) = true := by simpa using c400
        clear e4 e100 e400 c4 c100 c400
        go_enter Tryz.func111, Tryz.ntmps111
        go_wp2
        go_returns
        exact ⟨ret_bool L.out.symm, rfl⟩
      · have L := Lib.hid (show Cal.leap y = false by unfold Cal.leap; simp; omega)
        have d400 : (y.tmod 400 == 0) = false := by simpa using c400
        clear e4 e100 e400 c4 c100 c400
        go_enter Tryz.func111, Tryz.ntmps111
        go_wp2
        go_returns
        exact ⟨ret_bool L.out.symm, rfl⟩
    · have L := Lib.hid (show Cal.leap y = true by unfold Cal.leap; simp; omega)
      have d100 : (y.tmod 100 != 0) = true := by simpa using c100
      clear e4 e100 e400 c4 c100
      go_enter Tryz.func111, Tryz.ntmps111
      go_wp2
      go_returns
      exact ⟨ret_bool L.out.symm, rfl⟩
  · have L := Lib.hid (show Cal.leap y = false by unfold Cal.leap; simp; omega)
    have d : (y.tmod 4 == 0) = false := by simpa using c4
    clear e4 e100 e400 c4
    go_enter Tryz.func111, Tryz.ntmps111
    go_wp2
    go_returns
    exact ⟨ret_bool L.out.symm, rfl⟩
theorem leap_yes (y : Int) (w : World) (h : Cal.leap y = true) :
    Calls Tryz.prog 111 #[.int .i64 y] w fun e w' => e = .returned (.bool true) ∧ w = w' := by
  have := leap_any y w
  rw [h] at this
  exact this
theorem leap_no (y : Int) (w : World) (h : Cal.leap y = false) :
    Calls Tryz.prog 111 #[.int .i64 y] w fun e w' => e = .returned (.bool false) ∧ w = w' := by
  have := leap_any y w
  rw [h] at this
  exact this

theorem start_any (y : Int) (w : World) (h1 : -10000 ≤ y) (h2 : y ≤ 10001) :
    Calls Tryz.prog 105 #[.int .i64 y] w fun e w' => e = .returned (.int .i64 (Cal.start y)) ∧ w = w' := by
  go_enter Tryz.func105, Tryz.ntmps105
  go_wp2
  go_returns
  exact ⟨ret_int (by unfold Cal.start; omega), rfl⟩

theorem weekday_any (n : Int) (w : World) :
    Calls Tryz.prog 117 #[.int .i64 n] w fun e w' => e = .returned (.int .i64 (Cal.wd n)) ∧ w = w' := by
  have e := Int.tmod_eq_emod (a := n) (b := 7)
  have b1 : -6 ≤ n.tmod 7 := by have := Int.lt_tmod_of_pos n (show (0 : Int) < 7 by omega); omega
  have b2 : n.tmod 7 ≤ 6 := by have := Int.tmod_lt_of_pos n (show (0 : Int) < 7 by omega); omega
  have f : (n.tmod 7 + 7 + 3) % 7 + 1 = Cal.wd n := by
    unfold Cal.wd
    split at e <;> omega
  have F := Lib.hid f
  clear e f
  go_enter Tryz.func117, Tryz.ntmps117
  go_wp2
  go_returns
  exact ⟨ret_int F.out, rfl⟩

theorem before_any (y m : Int) (w : World) (hT : Tab w) (h1 : 1 ≤ m) (h2 : m ≤ 13) :
    Calls Tryz.prog 106 #[.int .i64 y, .int .i64 m] w fun e w' => e = .returned (.int .i64 (Cal.bef y m)) ∧ w = w' := by
  have hc : w.cell? ⟨9, m.toNat - 1, none⟩ = some (.int .i64 (Cal.cum m)) := by
    have := hT (m.toNat - 1) (by omega)
    rw [this]
    congr 3
    omega
  have cb : 0 ≤ Cal.cum m ∧ Cal.cum m ≤ 365 := by unfold Cal.cum; split <;> omega
  obtain ⟨cb1, cb2⟩ := cb
  have HT := Lib.hid hT
  clear hT
  by_cases c2 : 2 < m
  · by_cases cl : Cal.leap y = true
    · have R := Lib.hid (show Cal.cum m + 1 = Cal.bef y m by unfold Cal.cum Cal.bef; rw [Cal.lp_leap, cl]; simp [c2]; omega)
      have CL := Lib.hid cl
      clear cl
      go_enter Tryz.func106, Tryz.ntmps106
      go_wp2_with (go_at_call 111; (with_reducible refine (leap_yes _ _ CL.out).mono ?_); rintro e w' ⟨rfl, rfl⟩)
      go_returns
      exact ⟨ret_int R.out, rfl⟩
    · have cl : Cal.leap y = false := by simpa using cl
      have R := Lib.hid (show Cal.cum m = Cal.bef y m by unfold Cal.cum Cal.bef; rw [Cal.lp_leap, cl]; simp [c2])
      have CL := Lib.hid cl
      clear cl
      go_enter Tryz.func106, Tryz.ntmps106
      go_wp2_with (go_at_call 111; (with_reducible refine (leap_no _ _ CL.out).mono ?_); rintro e w' ⟨rfl, rfl⟩)
      go_returns
      exact ⟨ret_int R.out, rfl⟩
  · have R := Lib.hid (show Cal.cum m = Cal.bef y m by unfold Cal.cum Cal.bef; simp [c2])
    go_enter Tryz.func106, Tryz.ntmps106
    go_wp2
    go_returns
    exact ⟨ret_int R.out, rfl⟩

theorem length_any (y m : Int) (w : World) (hT : Tab w) :
    Calls Tryz.prog 104 #[.int .i64 y, .int .i64 m] w fun e w' => e = .returned (.int .i64 (Cal.len y m)) ∧ w = w' := by
  by_cases c : 1 ≤ m ∧ m ≤ 12
  · obtain ⟨c1, c2⟩ := c
    have b1 := Cal.bef_bd y (m + 1) (by omega) (by omega)
    have b2 := Cal.bef_bd y m (by omega) (by omega)
    have B1 := Lib.hid (fun w hT => before_any y (m + 1) w hT (by omega) (by omega))
    have B2 := Lib.hid (fun w hT => before_any y m w hT (by omega) (by omega))
    have R := Lib.hid (Cal.len_is y m c1 c2)
    have HT := Lib.hid hT
    clear hT
    obtain ⟨b3, b4⟩ := b1
    obtain ⟨b5, b6⟩ := b2
    go_enter Tryz.func104, Tryz.ntmps104
    go_wp2_with (first | (go_at_call 106; (with_reducible refine (B1.out _ HT.out).mono ?_); rintro e w' ⟨rfl, rfl⟩) | (go_at_call 106; (with_reducible refine (B2.out _ HT.out).mono ?_); rintro e w' ⟨rfl, rfl⟩))
    go_returns
    exact ⟨ret_int R.out.symm, rfl⟩
  · have R := Lib.hid (Cal.len_out y m c)
    clear hT
    by_cases c1 : m < 1
    · clear c
      go_enter Tryz.func104, Tryz.ntmps104
      go_wp2
      go_returns
      exact ⟨ret_int R.out.symm, rfl⟩
    · have c2 : 12 < m := by omega
      clear c
      go_enter Tryz.func104, Tryz.ntmps104
      go_wp2
      go_returns
      exact ⟨ret_int R.out.symm, rfl⟩

theorem days_ok (y m d : Int) (w : World) (hT : Tab w) (hy1 : -9999 ≤ y) (hy2 : y ≤ 9999) (hd1 : 1 ≤ d) (hd2 : d ≤ Cal.len y m) :
    Calls Tryz.prog 91 #[.int .i64 y, .int .i64 m, .int .i64 d] w fun e w' => e = .returned (.tuple #[.int .i64 (Cal.num y m d), .int .i64 0]) ∧ w = w' := by
  have hm : 1 ≤ m ∧ m ≤ 12 := by
    by_cases c : 1 ≤ m ∧ m ≤ 12
    · exact c
    · rw [Cal.len_out y m c] at hd2; omega
  obtain ⟨hm1, hm2⟩ := hm
  obtain ⟨l1, l2⟩ := Cal.len_bd y m hm1 hm2
  obtain ⟨b1, b2⟩ := Cal.bef_bd y m hm1 (by omega)
  obtain ⟨s1, s2⟩ := Cal.start_bd y hy1 (by omega)
  have R := Lib.hid (show Cal.start y + (Cal.bef y m + d - 1) = Cal.num y m d by unfold Cal.num; omega)
  have HT := Lib.hid hT
  clear hT
  go_enter Tryz.func91, Tryz.ntmps91
  go_wp2_with (first
    | (go_at_call 104; (with_reducible refine (length_any _ _ _ HT.out).mono ?_); rintro e w' ⟨rfl, rfl⟩)
    | (go_at_call 105; (with_reducible refine (start_any _ _ (by omega) (by omega)).mono ?_); rintro e w' ⟨rfl, rfl⟩)
    | (go_at_call 106; (with_reducible refine (before_any _ _ _ HT.out (by omega) (by omega)).mono ?_); rintro e w' ⟨rfl, rfl⟩))
  go_returns
  exact ⟨ret_int2 R.out rfl, rfl⟩

theorem days_err (y m d : Int) (w : World) (hT : Tab w) (h : ¬ (-9999 ≤ y ∧ y ≤ 9999 ∧ 1 ≤ d ∧ d ≤ Cal.len y m)) :
    Calls Tryz.prog 91 #[.int .i64 y, .int .i64 m, .int .i64 d] w fun e w' => e = .returned (.tuple #[.int .i64 0, .int .i64 30]) ∧ w = w' := by
  have HT := Lib.hid hT
  clear hT
  by_cases c1 : y < -9999
  · clear h
    go_enter Tryz.func91, Tryz.ntmps91
    go_wp2
    go_returns
    exact ⟨rfl, rfl⟩
  · by_cases c2 : 9999 < y
    · clear h
      go_enter Tryz.func91, Tryz.ntmps91
      go_wp2
      go_returns
      exact ⟨rfl, rfl⟩
    · by_cases c3 : d < 1
      · clear h
        go_enter Tryz.func91, Tryz.ntmps91
        go_wp2
        go_returns
        exact ⟨rfl, rfl⟩
      · have c4 : Cal.len y m < d := by omega
        clear h
        go_enter Tryz.func91, Tryz.ntmps91
        go_wp2_with (first
          | (go_at_call 104; (with_reducible refine (length_any _ _ _ HT.out).mono ?_); rintro e w' ⟨rfl, rfl⟩))
        go_returns
        exact ⟨rfl, rfl⟩

theorem start_lo (w : World) : Calls Tryz.prog 105 #[.int .i64 (-9999)] w fun e w' => e = .returned (.int .i64 (-4371587)) ∧ w = w' :=
  start_any (-9999) w (by omega) (by omega)
theorem start_hi (w : World) : Calls Tryz.prog 105 #[.int .i64 10000] w fun e w' => e = .returned (.int .i64 2932897) ∧ w = w' :=
  start_any 10000 w (by omega) (by omega)

theorem date_err (n : Int) (w : World) (h : ¬ (-4371587 ≤ n ∧ n < 2932897)) :
    Calls Tryz.prog 118 #[.int .i64 n] w fun e w' => e = .returned (.tuple #[.int .i64 0, .int .i64 0, .int .i64 0, .int .i64 30]) ∧ w = w' := by
  by_cases c1 : n < -4371587
  · clear h
    go_enter Tryz.func118, Tryz.ntmps118
    go_wp2_with (first
      | (go_at_call 105; (with_reducible refine (start_lo _).mono ?_); rintro e w' ⟨rfl, rfl⟩))
    go_returns
    exact ⟨rfl, rfl⟩
  · have c2 : 2932897 ≤ n := by omega
    clear h
    go_enter Tryz.func118, Tryz.ntmps118
    go_wp2_with (first
      | (go_at_call 105; (with_reducible refine (start_lo _).mono ?_); rintro e w' ⟨rfl, rfl⟩)
      | (go_at_call 105; (with_reducible refine (start_hi _).mono ?_); rintro e w' ⟨rfl, rfl⟩))
    go_returns
    exact ⟨rfl, rfl⟩

/-- What Date answers: some date, and that it has the number. -/
def DateOf (n : Int) (e : Ending) : Prop := ∃ y m d : Int, e = .returned (.tuple #[.int .i64 y, .int .i64 m, .int .i64 d, .int .i64 0]) ∧ -9999 ≤ y ∧ y ≤ 9999 ∧ 1 ≤ m ∧ m ≤ 12 ∧ 1 ≤ d ∧ d ≤ Cal.len y m ∧ Cal.num y m d = n

set_option maxHeartbeats 1000000 in
theorem date_ok (n : Int) (w : World) (hT : Tab w) (h1 : -4371587 ≤ n) (h2 : n < 2932897) :
    Calls Tryz.prog 118 #[.int .i64 n] w fun e w' => DateOf n e ∧ w = w' := by
  have G := Cal.guess n h1 h2
  obtain ⟨g, hg⟩ : ∃ g, g = (n + 719528 + 3652425) * 400 / 146097 - 10000 := ⟨_, rfl⟩
  rw [← hg] at G
  obtain ⟨G1, G2, G3, G4⟩ := G
  have HG := Lib.hid hg
  clear hg
  have HT := Lib.hid hT
  clear hT
  go_enter Tryz.func118, Tryz.ntmps118
  go_wp2_with (first
      | (go_at_call 105; (with_reducible refine (start_lo _).mono ?_); rintro e w' ⟨rfl, rfl⟩)
      | (go_at_call 105; (with_reducible refine (start_hi _).mono ?_); rintro e w' ⟨rfl, rfl⟩))
  rw [← HG.out]
  clear HG
  refine (start_any _ _ (by omega) (by omega)).mono ?_
  rintro e w' ⟨rfl, rfl⟩
  by_cases cA : n < Cal.start g
  · go_wp2_with fail
    refine (start_any _ _ (by omega) (by omega)).mono ?_
    rintro e w' ⟨rfl, rfl⟩
    go_wp2_with fail
    have lo := G1
    have hi : n < Cal.start (g - 1 + 1) := by rw [show g - 1 + 1 = g from by omega]; exact cA
    obtain ⟨y, hy⟩ : ∃ y, y = g - 1 := ⟨_, rfl⟩
    rw [← hy] at lo hi ⊢
    have yb : -9999 ≤ y ∧ y ≤ 9999 := by
      refine ⟨?_, ?_⟩
      · by_cases c : -9999 ≤ y
        · exact c
        · have := Cal.start_mono (y + 1) (-9999) (by omega)
          have e : Cal.start (-9999) = -4371587 := by decide
          omega
      · by_cases c : y ≤ 9999
        · exact c
        · have := Cal.start_mono 10000 y (by omega)
          have e : Cal.start 10000 = 2932897 := by decide
          omega
    obtain ⟨yb1, yb2⟩ := yb
    have ys := Cal.start_succ y
    rw [ys] at hi
    have hl := Cal.bef_last y
    obtain ⟨l1, l2⟩ := Cal.lp_01 y
    obtain ⟨sb1, sb2⟩ := Cal.start_bd y yb1 (by omega)
    clear hy G1 G2 G3 G4 ys
    have HL := Lib.hid hl
    clear hl
    refine (start_any _ _ (by omega) (by omega)).mono ?_
    rintro e w' ⟨rfl, rfl⟩
    go_wp2_with fail
    have b1 := Lib.hid (Cal.bef_one y)
    go_loop [8] (fun v => ∃ m : Int, 1 ≤ m ∧ m ≤ 12 ∧ v = .int .i64 m ∧ Cal.bef y m ≤ n - Cal.start y) (fun v => (12 - intOf v).toNat)
    case atStart => exact ⟨1, by omega, by omega, rfl, by rw [b1.out]; omega⟩
    case round =>
      obtain ⟨m, hm1, hm2, rfl, hb⟩ := hrel
      obtain ⟨c1, c2⟩ := Cal.bef_bd y m hm1 (by omega)
      obtain ⟨c3, c4⟩ := Cal.bef_bd y (m + 1) (by omega) (by omega)
      have hlen := Lib.hid (Cal.len_is y m hm1 hm2)
      by_cases hc : Cal.bef y (m + 1) ≤ n - Cal.start y
      · have hm3 : m < 12 := by
          by_cases h : m = 12
          · have h13 := HL.out
            rw [h] at hc
            have : Cal.bef y (12 + 1) = Cal.bef y 13 := rfl
            omega
          · omega
        go_wp2_with (first
          | (go_at_call 106; (with_reducible refine (before_any _ _ _ HT.out (by omega) (by omega)).mono ?_); rintro e w' ⟨rfl, rfl⟩))
        go_round
        case rel => exact ⟨m + 1, by omega, by omega, rfl, hc⟩
        case measure => simp [intOf]; omega
      · go_wp2_with (first
          | (go_at_call 106; (with_reducible refine (before_any _ _ _ HT.out (by omega) (by omega)).mono ?_); rintro e w' ⟨rfl, rfl⟩))
        go_returns
        exact ⟨⟨y, m, _, rfl, yb1, yb2, hm1, hm2, by omega, by have := hlen.out; omega, by unfold Cal.num; omega⟩, rfl⟩

  · go_wp2_with fail
    refine (start_any _ _ (by omega) (by omega)).mono ?_
    rintro e w' ⟨rfl, rfl⟩
    by_cases cB : Cal.start (g + 1) ≤ n
    · go_wp2_with fail
      have lo := cB
      have hi : n < Cal.start (g + 1 + 1) := by rw [show g + 1 + 1 = g + 2 from by omega]; exact G2
      clear cA cB
      obtain ⟨y, hy⟩ : ∃ y, y = g + 1 := ⟨_, rfl⟩
      rw [← hy] at lo hi ⊢
      have yb : -9999 ≤ y ∧ y ≤ 9999 := by
        refine ⟨?_, ?_⟩
        · by_cases c : -9999 ≤ y
          · exact c
          · have := Cal.start_mono (y + 1) (-9999) (by omega)
            have e : Cal.start (-9999) = -4371587 := by decide
            omega
        · by_cases c : y ≤ 9999
          · exact c
          · have := Cal.start_mono 10000 y (by omega)
            have e : Cal.start 10000 = 2932897 := by decide
            omega
      obtain ⟨yb1, yb2⟩ := yb
      have ys := Cal.start_succ y
      rw [ys] at hi
      have hl := Cal.bef_last y
      obtain ⟨l1, l2⟩ := Cal.lp_01 y
      obtain ⟨sb1, sb2⟩ := Cal.start_bd y yb1 (by omega)
      clear hy G1 G2 G3 G4 ys
      have HL := Lib.hid hl
      clear hl
      refine (start_any _ _ (by omega) (by omega)).mono ?_
      rintro e w' ⟨rfl, rfl⟩
      go_wp2_with fail
      have b1 := Lib.hid (Cal.bef_one y)
      go_loop [8] (fun v => ∃ m : Int, 1 ≤ m ∧ m ≤ 12 ∧ v = .int .i64 m ∧ Cal.bef y m ≤ n - Cal.start y) (fun v => (12 - intOf v).toNat)
      case atStart => exact ⟨1, by omega, by omega, rfl, by rw [b1.out]; omega⟩
      case round =>
        obtain ⟨m, hm1, hm2, rfl, hb⟩ := hrel
        obtain ⟨c1, c2⟩ := Cal.bef_bd y m hm1 (by omega)
        obtain ⟨c3, c4⟩ := Cal.bef_bd y (m + 1) (by omega) (by omega)
        have hlen := Lib.hid (Cal.len_is y m hm1 hm2)
        by_cases hc : Cal.bef y (m + 1) ≤ n - Cal.start y
        · have hm3 : m < 12 := by
            by_cases h : m = 12
            · have h13 := HL.out
              rw [h] at hc
              have : Cal.bef y (12 + 1) = Cal.bef y 13 := rfl
              omega
            · omega
          go_wp2_with (first
            | (go_at_call 106; (with_reducible refine (before_any _ _ _ HT.out (by omega) (by omega)).mono ?_); rintro e w' ⟨rfl, rfl⟩))
          go_round
          case rel => exact ⟨m + 1, by omega, by omega, rfl, hc⟩
          case measure => simp [intOf]; omega
        · go_wp2_with (first
            | (go_at_call 106; (with_reducible refine (before_any _ _ _ HT.out (by omega) (by omega)).mono ?_); rintro e w' ⟨rfl, rfl⟩))
          go_returns
          exact ⟨⟨y, m, _, rfl, yb1, yb2, hm1, hm2, by omega, by have := hlen.out; omega, by unfold Cal.num; omega⟩, rfl⟩

    · go_wp2_with fail
      have lo : Cal.start g ≤ n := by omega
      have hi : n < Cal.start (g + 1) := by omega
      clear cA cB
      obtain ⟨y, hy⟩ : ∃ y, y = g := ⟨_, rfl⟩
      rw [← hy] at lo hi ⊢
      have yb : -9999 ≤ y ∧ y ≤ 9999 := by
        refine ⟨?_, ?_⟩
        · by_cases c : -9999 ≤ y
          · exact c
          · have := Cal.start_mono (y + 1) (-9999) (by omega)
            have e : Cal.start (-9999) = -4371587 := by decide
            omega
        · by_cases c : y ≤ 9999
          · exact c
          · have := Cal.start_mono 10000 y (by omega)
            have e : Cal.start 10000 = 2932897 := by decide
            omega
      obtain ⟨yb1, yb2⟩ := yb
      have ys := Cal.start_succ y
      rw [ys] at hi
      have hl := Cal.bef_last y
      obtain ⟨l1, l2⟩ := Cal.lp_01 y
      obtain ⟨sb1, sb2⟩ := Cal.start_bd y yb1 (by omega)
      clear hy G1 G2 G3 G4 ys
      have HL := Lib.hid hl
      clear hl
      refine (start_any _ _ (by omega) (by omega)).mono ?_
      rintro e w' ⟨rfl, rfl⟩
      go_wp2_with fail
      have b1 := Lib.hid (Cal.bef_one y)
      go_loop [8] (fun v => ∃ m : Int, 1 ≤ m ∧ m ≤ 12 ∧ v = .int .i64 m ∧ Cal.bef y m ≤ n - Cal.start y) (fun v => (12 - intOf v).toNat)
      case atStart => exact ⟨1, by omega, by omega, rfl, by rw [b1.out]; omega⟩
      case round =>
        obtain ⟨m, hm1, hm2, rfl, hb⟩ := hrel
        obtain ⟨c1, c2⟩ := Cal.bef_bd y m hm1 (by omega)
        obtain ⟨c3, c4⟩ := Cal.bef_bd y (m + 1) (by omega) (by omega)
        have hlen := Lib.hid (Cal.len_is y m hm1 hm2)
        by_cases hc : Cal.bef y (m + 1) ≤ n - Cal.start y
        · have hm3 : m < 12 := by
            by_cases h : m = 12
            · have h13 := HL.out
              rw [h] at hc
              have : Cal.bef y (12 + 1) = Cal.bef y 13 := rfl
              omega
            · omega
          go_wp2_with (first
            | (go_at_call 106; (with_reducible refine (before_any _ _ _ HT.out (by omega) (by omega)).mono ?_); rintro e w' ⟨rfl, rfl⟩))
          go_round
          case rel => exact ⟨m + 1, by omega, by omega, rfl, hc⟩
          case measure => simp [intOf]; omega
        · go_wp2_with (first
            | (go_at_call 106; (with_reducible refine (before_any _ _ _ HT.out (by omega) (by omega)).mono ?_); rintro e w' ⟨rfl, rfl⟩))
          go_returns
          exact ⟨⟨y, m, _, rfl, yb1, yb2, hm1, hm2, by omega, by have := hlen.out; omega, by unfold Cal.num; omega⟩, rfl⟩


namespace Cal
/-- A year, a month and a day that are a date. -/
structure Valid (y m d : Int) : Prop where
  y1 : -9999 ≤ y
  y2 : y ≤ 9999
  d1 : 1 ≤ d
  d2 : d ≤ len y m
theorem Valid.month {y m d : Int} (h : Valid y m d) : 1 ≤ m ∧ m ≤ 12 := by
  by_cases c : 1 ≤ m ∧ m ≤ 12
  · exact c
  · have h1 := h.d1
    have h2 := h.d2
    rw [len_out y m c] at h2; omega
theorem Valid.within {y m d : Int} (h : Valid y m d) : start y ≤ num y m d ∧ num y m d < start (y + 1) ∧ start y + bef y m ≤ num y m d ∧ num y m d < start y + bef y (m + 1) := by
  obtain ⟨m1, m2⟩ := h.month
  have h1 := h.d1
  have h2 := h.d2
  rw [len_is y m m1 m2] at h2
  have b := bef_bd y m m1 (by omega)
  have e := start_succ y
  have l := bef_last y
  have k : bef y (m + 1) ≤ bef y 13 := by
    by_cases c : m = 12
    · rw [c]; exact Int.le_refl _
    · have := bef_mono y (m + 1) 13 (by omega) (by omega) (by omega); omega
  unfold num
  omega
theorem Valid.range {y m d : Int} (h : Valid y m d) : -4371587 ≤ num y m d ∧ num y m d < 2932897 := by
  have w := h.within
  have h1 := h.y1
  have h2 := h.y2
  have s := start_bd y h1 (by omega)
  have s2 := start_bd (y + 1) (by omega) (by omega)
  omega
theorem num_lt {y m d y' m' d' : Int} (h : Valid y m d) (h' : Valid y' m' d') (c : y < y' ∨ y = y' ∧ (m < m' ∨ m = m' ∧ d < d')) : num y m d < num y' m' d' := by
  have w := h.within
  have w' := h'.within
  obtain ⟨m1, m2⟩ := h.month
  obtain ⟨m1', m2'⟩ := h'.month
  rcases c with c | ⟨rfl, c | ⟨rfl, c⟩⟩
  · have := start_mono (y + 1) y' (by omega)
    omega
  · have k : bef y (m + 1) ≤ bef y m' := by
      by_cases e : m + 1 = m'
      · rw [e]; exact Int.le_refl _
      · have := bef_mono y (m + 1) m' (by omega) (by omega) (by omega); omega
    omega
  · unfold num; omega
theorem num_inj {y m d y' m' d' : Int} (h : Valid y m d) (h' : Valid y' m' d') (e : num y m d = num y' m' d') : y = y' ∧ m = m' ∧ d = d' := by
  have a : ¬ (y < y' ∨ y = y' ∧ (m < m' ∨ m = m' ∧ d < d')) := fun c => by have := num_lt h h' c; omega
  have b : ¬ (y' < y ∨ y' = y ∧ (m' < m ∨ m' = m ∧ d' < d)) := fun c => by have := num_lt h' h c; omega
  omega
end Cal

theorem days_valid (y m d : Int) (w : World) (hT : Tab w) (h : Cal.Valid y m d) :
    Calls Tryz.prog 91 #[.int .i64 y, .int .i64 m, .int .i64 d] w fun e w' => e = .returned (.tuple #[.int .i64 (Cal.num y m d), .int .i64 0]) ∧ w = w' :=
  days_ok y m d w hT h.y1 h.y2 h.d1 h.d2
theorem days_not (y m d : Int) (w : World) (hT : Tab w) (h : ¬ Cal.Valid y m d) :
    Calls Tryz.prog 91 #[.int .i64 y, .int .i64 m, .int .i64 d] w fun e w' => e = .returned (.tuple #[.int .i64 0, .int .i64 30]) ∧ w = w' :=
  days_err y m d w hT fun ⟨a, b, c, e⟩ => h ⟨a, b, c, e⟩
theorem date_num (y m d : Int) (w : World) (hT : Tab w) (h : Cal.Valid y m d) :
    Calls Tryz.prog 118 #[.int .i64 (Cal.num y m d)] w fun e w' => e = .returned (.tuple #[.int .i64 y, .int .i64 m, .int .i64 d, .int .i64 0]) ∧ w = w' := by
  obtain ⟨r1, r2⟩ := h.range
  refine (date_ok _ w hT r1 r2).mono ?_
  rintro e w' ⟨⟨y', m', d', rfl, a1, a2, a3, a4, a5, a6, a7⟩, hw⟩
  obtain ⟨rfl, rfl, rfl⟩ := Cal.num_inj h ⟨a1, a2, a5, a6⟩ a7.symm
  exact ⟨rfl, hw⟩
namespace Cal
theorem some_month (y r : Int) (h0 : 0 ≤ r) (k : Nat) : r < bef y ((k : Int) + 1) → ∃ m : Int, 1 ≤ m ∧ m ≤ k ∧ bef y m ≤ r ∧ r < bef y (m + 1) := by
  induction k with
  | zero =>
    intro h
    have e := bef_one y
    have z : ((0 : Nat) : Int) + 1 = 1 := by omega
    rw [z] at h
    omega
  | succ k ih =>
    intro h
    by_cases c : r < bef y ((k : Int) + 1)
    · obtain ⟨m, a, b, d, e⟩ := ih c
      exact ⟨m, a, by omega, d, e⟩
    · refine ⟨(k : Int) + 1, by omega, by omega, by omega, ?_⟩
      have e : (((k + 1 : Nat) : Int) + 1) = (k : Int) + 1 + 1 := by omega
      rw [e] at h
      exact h
/-- For each number of a day there is the date. -/
theorem some_date (n : Int) (h1 : -4371587 ≤ n) (h2 : n < 2932897) : ∃ y m d : Int, Valid y m d ∧ num y m d = n := by
  have hy : ∃ y, start y ≤ n ∧ n < start (y + 1) := by
    obtain ⟨a, b, c, d⟩ := guess n h1 h2
    generalize (n + 719528 + 3652425) * 400 / 146097 - 10000 = g at *
    by_cases c1 : n < start g
    · exact ⟨g - 1, a, by rw [show g - 1 + 1 = g from by omega]; exact c1⟩
    · by_cases c2 : n < start (g + 1)
      · exact ⟨g, by omega, c2⟩
      · exact ⟨g + 1, by omega, by rw [show g + 1 + 1 = g + 2 from by omega]; exact b⟩
  obtain ⟨y, ha, hb⟩ := hy
  have yb : -9999 ≤ y ∧ y ≤ 9999 := by
    refine ⟨?_, ?_⟩
    · by_cases c : -9999 ≤ y
      · exact c
      · have := start_mono (y + 1) (-9999) (by omega)
        have e : start (-9999) = -4371587 := by decide
        omega
    · by_cases c : y ≤ 9999
      · exact c
      · have := start_mono 10000 y (by omega)
        have e : start 10000 = 2932897 := by decide
        omega
  rw [start_succ] at hb
  obtain ⟨m, m1, m2, m3, m4⟩ := some_month y (n - start y) (by omega) 12 (by
    have := bef_last y
    rw [show ((12 : Nat) : Int) + 1 = 13 from rfl]
    omega)
  have hl := len_is y m m1 (by omega)
  exact ⟨y, m, n - start y - bef y m + 1, ⟨yb.1, yb.2, by omega, by omega⟩, by unfold num; omega⟩
end Cal


theorem ret_int3' {k l m : IntKind} {a b c d f g : Int} (h : a = b) (h' : c = d) (h'' : f = g) : Ending.returned (.tuple #[.int k a, .int l c, .int m f]) = .returned (.tuple #[.int k b, .int l d, .int m g]) := by rw [h, h', h'']
theorem ret_int4' {k l m n : IntKind} {a b c d f g i j : Int} (h : a = b) (h' : c = d) (h'' : f = g) (h3 : i = j) : Ending.returned (.tuple #[.int k a, .int l c, .int m f, .int n i]) = .returned (.tuple #[.int k b, .int l d, .int m g, .int n j]) := by rw [h, h', h'', h3]

namespace Cal
/-- The Monday of a year's first week. -/
def op (y : Int) : Int := start y + 3 - wd (start y + 3) + 1
def cov (y : Int) : Bool := decide (-9999 ≤ y ∧ y ≤ 9999)
/-- How many weeks a year has. -/
def weeks (y : Int) : Int := if -9999 ≤ y ∧ y ≤ 9999 then (if wd (start y) = 4 ∨ wd (start (y + 1) - 1) = 4 then 53 else 52) else 0
theorem fourth (y : Int) : num y 1 4 = start y + 3 := by unfold num; rw [bef_one]; omega
theorem first (y : Int) : num y 1 1 = start y := by unfold num; rw [bef_one]; omega
theorem last (y : Int) : num y 12 31 = start (y + 1) - 1 := by
  have := lp_01 y
  rw [start_succ]
  unfold num bef
  simp
  omega
theorem last28 (y : Int) : num y 12 28 = start (y + 1) - 4 := by
  have := lp_01 y
  rw [start_succ]
  unfold num bef
  simp
  omega
theorem valid_day (y d : Int) (h1 : -9999 ≤ y) (h2 : y ≤ 9999) (h3 : 1 ≤ d) (h4 : d ≤ 28) : Valid y 1 d := ⟨h1, h2, h3, by have := len_bd y 1 (by omega) (by omega); omega⟩
theorem valid_dec (y d : Int) (h1 : -9999 ≤ y) (h2 : y ≤ 9999) (h3 : 1 ≤ d) (h4 : d ≤ 31) : Valid y 12 d := ⟨h1, h2, h3, by
  rw [len_is y 12 (by omega) (by omega)]
  have := bef_last y
  have := lp_01 y
  have e : bef y (12 + 1) = bef y 13 := rfl
  have f : bef y 12 = 334 + lp y := by unfold bef; simp; omega
  omega⟩
theorem wd_bd (n : Int) : 1 ≤ wd n ∧ wd n ≤ 7 := by unfold wd; omega
/-- A day whose Thursday is in a year is not ahead of that year's first week, nor behind its last one. -/
theorem in_weeks (n y : Int) (h1 : start y ≤ n - wd n + 4) (h2 : n - wd n + 4 < start (y + 1)) : op y ≤ n ∧ n < op (y + 1) := by
  unfold op wd at *
  omega
theorem op_next (y : Int) (h1 : -9999 ≤ y) (h2 : y ≤ 9999) : op (y + 1) = op y + 7 * weeks y := by
  have l := lp_01 y
  have e := start_succ y
  unfold weeks
  rw [if_pos ⟨h1, h2⟩]
  unfold op wd at *
  rw [e]
  split <;> omega
end Cal

theorem covered_any (y : Int) (w : World) :
    Calls Tryz.prog 110 #[.int .i64 y] w fun e w' => e = .returned (.bool (Cal.cov y)) ∧ w = w' := by
  by_cases c1 : -9999 ≤ y
  · have R := Lib.hid (show decide (y ≤ 9999) = Cal.cov y by unfold Cal.cov; simp [c1])
    go_enter Tryz.func110, Tryz.ntmps110
    go_wp2
    go_returns
    exact ⟨ret_bool R.out, rfl⟩
  · have R := Lib.hid (show false = Cal.cov y by unfold Cal.cov; simp; omega)
    go_enter Tryz.func110, Tryz.ntmps110
    go_wp2
    go_returns
    exact ⟨ret_bool R.out, rfl⟩
theorem covered_yes (y : Int) (w : World) (h1 : -9999 ≤ y) (h2 : y ≤ 9999) :
    Calls Tryz.prog 110 #[.int .i64 y] w fun e w' => e = .returned (.bool true) ∧ w = w' := by
  have h := covered_any y w
  rw [show Cal.cov y = true by unfold Cal.cov; simp; omega] at h
  exact h
theorem covered_no (y : Int) (w : World) (h : ¬ (-9999 ≤ y ∧ y ≤ 9999)) :
    Calls Tryz.prog 110 #[.int .i64 y] w fun e w' => e = .returned (.bool false) ∧ w = w' := by
  have r := covered_any y w
  rw [show Cal.cov y = false by unfold Cal.cov; simp; omega] at r
  exact r

theorem opening_any (y : Int) (w : World) (hT : Tab w) (h1 : -9999 ≤ y) (h2 : y ≤ 9999) :
    Calls Tryz.prog 109 #[.int .i64 y] w fun e w' => e = .returned (.int .i64 (Cal.op y)) ∧ w = w' := by
  have D := fun w hT => days_valid y 1 4 w hT (Cal.valid_day y 4 h1 h2 (by omega) (by omega))
  simp only [Cal.fourth] at D
  have D := Lib.hid D
  have b := Cal.start_bd y h1 (by omega)
  have wb := Cal.wd_bd (Cal.start y + 3)
  have R := Lib.hid (show Cal.start y + 3 - Cal.wd (Cal.start y + 3) + 1 = Cal.op y from rfl)
  have HT := Lib.hid hT
  clear hT
  obtain ⟨b1, b2⟩ := b
  obtain ⟨b3, b4⟩ := wb
  go_enter Tryz.func109, Tryz.ntmps109
  go_wp2_with (first
    | (go_at_call 91; (with_reducible refine (D.out _ HT.out).mono ?_); rintro e w' ⟨rfl, rfl⟩)
    | (go_at_call 117; (with_reducible refine (weekday_any _ _).mono ?_); rintro e w' ⟨rfl, rfl⟩))
  go_returns
  exact ⟨ret_int R.out, rfl⟩

theorem weeks_any (y : Int) (w : World) (hT : Tab w) :
    Calls Tryz.prog 107 #[.int .i64 y] w fun e w' => e = .returned (.int .i64 (Cal.weeks y)) ∧ w = w' := by
  by_cases c : -9999 ≤ y ∧ y ≤ 9999
  · obtain ⟨h1, h2⟩ := c
    have D1 := fun w hT => days_valid y 1 1 w hT (Cal.valid_day y 1 h1 h2 (by omega) (by omega))
    simp only [Cal.first] at D1
    have D2 := fun w hT => days_valid y 12 31 w hT (Cal.valid_dec y 31 h1 h2 (by omega) (by omega))
    simp only [Cal.last] at D2
    have D1 := Lib.hid D1
    have D2 := Lib.hid D2
    have C := Lib.hid (fun w => covered_yes y w h1 h2)
    have HT := Lib.hid hT
    clear hT
    by_cases c1 : Cal.wd (Cal.start y) = 4
    · have R := Lib.hid (show 53 = Cal.weeks y by unfold Cal.weeks; rw [if_pos ⟨h1, h2⟩, if_pos (.inl c1)])
      have d1 : (Cal.wd (Cal.start y) == 4) = true := by simpa using c1
      clear c1
      go_enter Tryz.func107, Tryz.ntmps107
      go_wp2_with (first
        | (go_at_call 110; (with_reducible refine (C.out _).mono ?_); rintro e w' ⟨rfl, rfl⟩)
        | (go_at_call 91; (with_reducible refine (D1.out _ HT.out).mono ?_); rintro e w' ⟨rfl, rfl⟩)
        | (go_at_call 91; (with_reducible refine (D2.out _ HT.out).mono ?_); rintro e w' ⟨rfl, rfl⟩)
        | (go_at_call 117; (with_reducible refine (weekday_any _ _).mono ?_); rintro e w' ⟨rfl, rfl⟩))
      go_returns
      exact ⟨ret_int R.out, rfl⟩
    · have d1 : (Cal.wd (Cal.start y) == 4) = false := by simpa using c1
      by_cases c2 : Cal.wd (Cal.start (y + 1) - 1) = 4
      · have R := Lib.hid (show 53 = Cal.weeks y by unfold Cal.weeks; rw [if_pos ⟨h1, h2⟩, if_pos (.inr c2)])
        have d2 : (Cal.wd (Cal.start (y + 1) - 1) == 4) = true := by simpa using c2
        clear c1 c2
        go_enter Tryz.func107, Tryz.ntmps107
        go_wp2_with (first
          | (go_at_call 110; (with_reducible refine (C.out _).mono ?_); rintro e w' ⟨rfl, rfl⟩)
          | (go_at_call 91; (with_reducible refine (D1.out _ HT.out).mono ?_); rintro e w' ⟨rfl, rfl⟩)
          | (go_at_call 91; (with_reducible refine (D2.out _ HT.out).mono ?_); rintro e w' ⟨rfl, rfl⟩)
          | (go_at_call 117; (with_reducible refine (weekday_any _ _).mono ?_); rintro e w' ⟨rfl, rfl⟩))
        go_returns
        exact ⟨ret_int R.out, rfl⟩
      · have R := Lib.hid (show 52 = Cal.weeks y by unfold Cal.weeks; rw [if_pos ⟨h1, h2⟩, if_neg (by simp [c1, c2])])
        have d2 : (Cal.wd (Cal.start (y + 1) - 1) == 4) = false := by simpa using c2
        clear c1 c2
        go_enter Tryz.func107, Tryz.ntmps107
        go_wp2_with (first
          | (go_at_call 110; (with_reducible refine (C.out _).mono ?_); rintro e w' ⟨rfl, rfl⟩)
          | (go_at_call 91; (with_reducible refine (D1.out _ HT.out).mono ?_); rintro e w' ⟨rfl, rfl⟩)
          | (go_at_call 91; (with_reducible refine (D2.out _ HT.out).mono ?_); rintro e w' ⟨rfl, rfl⟩)
          | (go_at_call 117; (with_reducible refine (weekday_any _ _).mono ?_); rintro e w' ⟨rfl, rfl⟩))
        go_returns
        exact ⟨ret_int R.out, rfl⟩
  · have R := Lib.hid (show 0 = Cal.weeks y by unfold Cal.weeks; rw [if_neg c])
    have C := Lib.hid (fun w => covered_no y w c)
    clear hT c
    go_enter Tryz.func107, Tryz.ntmps107
    go_wp2_with (go_at_call 110; (with_reducible refine (C.out _).mono ?_); rintro e w' ⟨rfl, rfl⟩)
    go_returns
    exact ⟨ret_int R.out, rfl⟩

/-- Date at any number: a date, or none. -/
theorem date_cases (n : Int) : (∃ y m d : Int, Cal.Valid y m d ∧ Cal.num y m d = n ∧ Cal.start y ≤ n ∧ n < Cal.start (y + 1) ∧ Hid (∀ w, Tab w → Calls Tryz.prog 118 #[.int .i64 n] w fun e w' => e = .returned (.tuple #[.int .i64 y, .int .i64 m, .int .i64 d, .int .i64 0]) ∧ w = w')) ∨
    ((n < -4371587 ∨ 2932897 ≤ n) ∧ Hid (∀ w, Tab w → Calls Tryz.prog 118 #[.int .i64 n] w fun e w' => e = .returned (.tuple #[.int .i64 0, .int .i64 0, .int .i64 0, .int .i64 30]) ∧ w = w')) := by
  by_cases r : -4371587 ≤ n ∧ n < 2932897
  · obtain ⟨y, m, d, v, rfl⟩ := Cal.some_date n r.1 r.2
    have wi := v.within
    exact .inl ⟨y, m, d, v, rfl, wi.1, wi.2.1, Lib.hid fun w hT => date_num y m d w hT v⟩
  · exact .inr ⟨by omega, Lib.hid fun w _ => date_err n w r⟩

theorem known_ok (n : Int) (w : World) (hT : Tab w) (h : -4371587 ≤ n ∧ n < 2932897) :
    Calls Tryz.prog 108 #[.int .i64 n] w fun e w' => e = .returned (.tuple #[.int .i64 n, .int .i64 0]) ∧ w = w' := by
  rcases date_cases n with ⟨y, m, d, v, e, s1, s2, D⟩ | ⟨c, D⟩
  · have HT := Lib.hid hT
    clear hT v e h
    go_enter Tryz.func108, Tryz.ntmps108
    go_wp2_with (go_at_call 118; (with_reducible refine (D.out _ HT.out).mono ?_); rintro e w' ⟨rfl, rfl⟩)
    go_returns
    exact ⟨rfl, rfl⟩
  · omega
theorem known_no (n : Int) (w : World) (hT : Tab w) (h : ¬ (-4371587 ≤ n ∧ n < 2932897)) :
    Calls Tryz.prog 108 #[.int .i64 n] w fun e w' => e = .returned (.tuple #[.int .i64 0, .int .i64 30]) ∧ w = w' := by
  have D := Lib.hid (fun w (_ : Tab w) => date_err n w h)
  have HT := Lib.hid hT
  clear hT h
  go_enter Tryz.func108, Tryz.ntmps108
  go_wp2_with (go_at_call 118; (with_reducible refine (D.out _ HT.out).mono ?_); rintro e w' ⟨rfl, rfl⟩)
  go_returns
  exact ⟨rfl, rfl⟩

theorem ofnth_ok (y k : Int) (w : World) (hT : Tab w) (h1 : -9999 ≤ y) (h2 : y ≤ 9999) (h3 : 1 ≤ k) (h4 : k ≤ 365 + Cal.lp y) :
    Calls Tryz.prog 94 #[.int .i64 y, .int .i64 k] w fun e w' => e = .returned (.tuple #[.int .i64 (Cal.start y + (k - 1)), .int .i64 0]) ∧ w = w' := by
  have D1 := fun w hT => days_valid y 1 1 w hT (Cal.valid_day y 1 h1 h2 (by omega) (by omega))
  simp only [Cal.first] at D1
  have D1 := Lib.hid D1
  have C := Lib.hid (fun w => covered_yes y w h1 h2)
  have s := Cal.start_bd y h1 (by omega)
  have l := Cal.lp_leap y
  have l01 := Cal.lp_01 y
  obtain ⟨s1, s2⟩ := s
  have HT := Lib.hid hT
  clear hT
  by_cases c : k = 366
  · have cl : Cal.leap y = true := by
      by_cases e : Cal.leap y = true
      · exact e
      · rw [if_neg e] at l; omega
    have CL := Lib.hid cl
    subst c
    clear cl l l01 h4
    go_enter Tryz.func94, Tryz.ntmps94
    go_wp2_with (first
      | (go_at_call 110; (with_reducible refine (C.out _).mono ?_); rintro e w' ⟨rfl, rfl⟩)
      | (go_at_call 111; (with_reducible refine (leap_yes _ _ CL.out).mono ?_); rintro e w' ⟨rfl, rfl⟩)
      | (go_at_call 91; (with_reducible refine (D1.out _ HT.out).mono ?_); rintro e w' ⟨rfl, rfl⟩))
    go_returns
    exact ⟨rfl, rfl⟩
  · have c' : k ≤ 365 := by omega
    have d : (k == 366) = false := by simpa using c
    clear c l l01 h4
    go_enter Tryz.func94, Tryz.ntmps94
    go_wp2_with (first
      | (go_at_call 110; (with_reducible refine (C.out _).mono ?_); rintro e w' ⟨rfl, rfl⟩)
      | (go_at_call 91; (with_reducible refine (D1.out _ HT.out).mono ?_); rintro e w' ⟨rfl, rfl⟩))
    go_returns
    exact ⟨rfl, rfl⟩

theorem ofnth_no (y k : Int) (w : World) (h : ¬ (-9999 ≤ y ∧ y ≤ 9999 ∧ 1 ≤ k ∧ k ≤ 365 + Cal.lp y)) :
    Calls Tryz.prog 94 #[.int .i64 y, .int .i64 k] w fun e w' => e = .returned (.tuple #[.int .i64 0, .int .i64 30]) ∧ w = w' := by
  have l := Cal.lp_leap y
  have l01 := Cal.lp_01 y
  by_cases c : -9999 ≤ y ∧ y ≤ 9999
  · have C := Lib.hid (fun w => covered_yes y w c.1 c.2)
    by_cases k1 : k < 1
    · clear h c l l01
      go_enter Tryz.func94, Tryz.ntmps94
      go_wp2_with (go_at_call 110; (with_reducible refine (C.out _).mono ?_); rintro e w' ⟨rfl, rfl⟩)
      go_returns
      exact ⟨rfl, rfl⟩
    · by_cases k2 : 366 < k
      · clear h c l l01
        go_enter Tryz.func94, Tryz.ntmps94
        go_wp2_with (go_at_call 110; (with_reducible refine (C.out _).mono ?_); rintro e w' ⟨rfl, rfl⟩)
        go_returns
        exact ⟨rfl, rfl⟩
      · have cl : Cal.leap y = false := by
          by_cases e : Cal.leap y = true
          · rw [if_pos e] at l; omega
          · simpa using e
        rw [cl] at l
        simp at l
        have ek : k = 366 := by omega
        subst ek
        have CL := Lib.hid cl
        clear h c l l01 cl
        go_enter Tryz.func94, Tryz.ntmps94
        go_wp2_with (first
          | (go_at_call 110; (with_reducible refine (C.out _).mono ?_); rintro e w' ⟨rfl, rfl⟩)
          | (go_at_call 111; (with_reducible refine (leap_no _ _ CL.out).mono ?_); rintro e w' ⟨rfl, rfl⟩))
        go_returns
        exact ⟨rfl, rfl⟩
  · have C := Lib.hid (fun w => covered_no y w c)
    clear h c l l01
    go_enter Tryz.func94, Tryz.ntmps94
    go_wp2_with (go_at_call 110; (with_reducible refine (C.out _).mono ?_); rintro e w' ⟨rfl, rfl⟩)
    go_returns
    exact ⟨rfl, rfl⟩

namespace Cal
theorem weeks_bd (y : Int) : 0 ≤ weeks y ∧ weeks y ≤ 53 := by unfold weeks; split <;> (try split) <;> omega
theorem weeks_cov (y : Int) (h : 0 < weeks y) : -9999 ≤ y ∧ y ≤ 9999 := by
  unfold weeks at h
  by_cases c : -9999 ≤ y ∧ y ≤ 9999
  · exact c
  · rw [if_neg c] at h; omega
theorem op_bd (y : Int) (h1 : -9999 ≤ y) (h2 : y ≤ 9999) : -4400000 ≤ op y ∧ op y ≤ 2950000 := by
  have b := start_bd y h1 (by omega)
  have := wd_bd (start y + 3)
  unfold op
  omega
end Cal

theorem ofweek_ok (y k d : Int) (w : World) (hT : Tab w) (h1 : 1 ≤ k) (h2 : k ≤ Cal.weeks y) (h3 : 1 ≤ d) (h4 : d ≤ 7)
    (r1 : -4371587 ≤ Cal.op y + (k - 1) * 7 + (d - 1)) (r2 : Cal.op y + (k - 1) * 7 + (d - 1) < 2932897) :
    Calls Tryz.prog 92 #[.int .i64 y, .int .i64 k, .int .i64 d] w fun e w' => e = .returned (.tuple #[.int .i64 (Cal.op y + (k - 1) * 7 + (d - 1)), .int .i64 0]) ∧ w = w' := by
  have wb := (Cal.weeks_bd y).2
  have cv := Cal.weeks_cov y (by omega)
  have ob := Cal.op_bd y cv.1 cv.2
  have O := Lib.hid (fun w hT => opening_any y w hT cv.1 cv.2)
  have W := Lib.hid (fun w hT => weeks_any y w hT)
  have K := Lib.hid (fun w hT => known_ok (Cal.op y + (k - 1) * 7 + (d - 1)) w hT ⟨r1, r2⟩)
  have HT := Lib.hid hT
  obtain ⟨ob1, ob2⟩ := ob
  have k53 : k ≤ 53 := by omega
  clear hT cv wb r1 r2
  go_enter Tryz.func92, Tryz.ntmps92
  go_wp2_with (first
    | (go_at_call 107; (with_reducible refine (W.out _ HT.out).mono ?_); rintro e w' ⟨rfl, rfl⟩)
    | (go_at_call 109; (with_reducible refine (O.out _ HT.out).mono ?_); rintro e w' ⟨rfl, rfl⟩)
    | (go_at_call 108; (with_reducible refine (K.out _ HT.out).mono ?_); rintro e w' ⟨rfl, rfl⟩))
  go_returns
  exact ⟨rfl, rfl⟩

theorem ofweek_out (y k d : Int) (w : World) (hT : Tab w) (h1 : 1 ≤ k) (h2 : k ≤ Cal.weeks y) (h3 : 1 ≤ d) (h4 : d ≤ 7)
    (r : ¬ (-4371587 ≤ Cal.op y + (k - 1) * 7 + (d - 1) ∧ Cal.op y + (k - 1) * 7 + (d - 1) < 2932897)) :
    Calls Tryz.prog 92 #[.int .i64 y, .int .i64 k, .int .i64 d] w fun e w' => e = .returned (.tuple #[.int .i64 0, .int .i64 30]) ∧ w = w' := by
  have wb := (Cal.weeks_bd y).2
  have cv := Cal.weeks_cov y (by omega)
  have ob := Cal.op_bd y cv.1 cv.2
  have O := Lib.hid (fun w hT => opening_any y w hT cv.1 cv.2)
  have W := Lib.hid (fun w hT => weeks_any y w hT)
  have K := Lib.hid (fun w hT => known_no (Cal.op y + (k - 1) * 7 + (d - 1)) w hT r)
  have HT := Lib.hid hT
  obtain ⟨ob1, ob2⟩ := ob
  have k53 : k ≤ 53 := by omega
  clear hT cv wb r
  go_enter Tryz.func92, Tryz.ntmps92
  go_wp2_with (first
    | (go_at_call 107; (with_reducible refine (W.out _ HT.out).mono ?_); rintro e w' ⟨rfl, rfl⟩)
    | (go_at_call 109; (with_reducible refine (O.out _ HT.out).mono ?_); rintro e w' ⟨rfl, rfl⟩)
    | (go_at_call 108; (with_reducible refine (K.out _ HT.out).mono ?_); rintro e w' ⟨rfl, rfl⟩))
  go_returns
  exact ⟨rfl, rfl⟩

theorem ofweek_no (y k d : Int) (w : World) (hT : Tab w) (h : ¬ (1 ≤ k ∧ k ≤ Cal.weeks y ∧ 1 ≤ d ∧ d ≤ 7)) :
    Calls Tryz.prog 92 #[.int .i64 y, .int .i64 k, .int .i64 d] w fun e w' => e = .returned (.tuple #[.int .i64 0, .int .i64 30]) ∧ w = w' := by
  have W := Lib.hid (fun w hT => weeks_any y w hT)
  have HT := Lib.hid hT
  clear hT
  by_cases k1 : k < 1
  · clear h
    go_enter Tryz.func92, Tryz.ntmps92
    go_wp2_with (go_at_call 107; (with_reducible refine (W.out _ HT.out).mono ?_); rintro e w' ⟨rfl, rfl⟩)
    go_returns
    exact ⟨rfl, rfl⟩
  · by_cases k2 : Cal.weeks y < k
    · clear h
      go_enter Tryz.func92, Tryz.ntmps92
      go_wp2_with (go_at_call 107; (with_reducible refine (W.out _ HT.out).mono ?_); rintro e w' ⟨rfl, rfl⟩)
      go_returns
      exact ⟨rfl, rfl⟩
    · by_cases k3 : d < 1
      · clear h
        go_enter Tryz.func92, Tryz.ntmps92
        go_wp2_with (go_at_call 107; (with_reducible refine (W.out _ HT.out).mono ?_); rintro e w' ⟨rfl, rfl⟩)
        go_returns
        exact ⟨rfl, rfl⟩
      · have k4 : 7 < d := by omega
        clear h
        go_enter Tryz.func92, Tryz.ntmps92
        go_wp2_with (go_at_call 107; (with_reducible refine (W.out _ HT.out).mono ?_); rintro e w' ⟨rfl, rfl⟩)
        go_returns
        exact ⟨rfl, rfl⟩
section

theorem ba4_0 (a b c d : UInt8) (h : 0 < (ByteArray.mk #[a, b, c, d]).size) : (ByteArray.mk #[a, b, c, d])[0]'h = a := rfl
attribute [local go_sem] ba4_0
theorem ba4_1 (a b c d : UInt8) (h : 1 < (ByteArray.mk #[a, b, c, d]).size) : (ByteArray.mk #[a, b, c, d])[1]'h = b := rfl
attribute [local go_sem] ba4_1
theorem ba4_2 (a b c d : UInt8) (h : 2 < (ByteArray.mk #[a, b, c, d]).size) : (ByteArray.mk #[a, b, c, d])[2]'h = c := rfl
attribute [local go_sem] ba4_2
theorem ba4_3 (a b c d : UInt8) (h : 3 < (ByteArray.mk #[a, b, c, d]).size) : (ByteArray.mk #[a, b, c, d])[3]'h = d := rfl
attribute [local go_sem] ba4_3
theorem ba6_0 (a b c d f g : UInt8) (h : 0 < (ByteArray.mk #[a, b, c, d, f, g]).size) : (ByteArray.mk #[a, b, c, d, f, g])[0]'h = a := rfl
attribute [local go_sem] ba6_0
theorem ba6_1 (a b c d f g : UInt8) (h : 1 < (ByteArray.mk #[a, b, c, d, f, g]).size) : (ByteArray.mk #[a, b, c, d, f, g])[1]'h = b := rfl
attribute [local go_sem] ba6_1
theorem ba6_2 (a b c d f g : UInt8) (h : 2 < (ByteArray.mk #[a, b, c, d, f, g]).size) : (ByteArray.mk #[a, b, c, d, f, g])[2]'h = c := rfl
attribute [local go_sem] ba6_2
theorem ba6_3 (a b c d f g : UInt8) (h : 3 < (ByteArray.mk #[a, b, c, d, f, g]).size) : (ByteArray.mk #[a, b, c, d, f, g])[3]'h = d := rfl
attribute [local go_sem] ba6_3
theorem ba6_4 (a b c d f g : UInt8) (h : 4 < (ByteArray.mk #[a, b, c, d, f, g]).size) : (ByteArray.mk #[a, b, c, d, f, g])[4]'h = f := rfl
attribute [local go_sem] ba6_4
theorem ba6_5 (a b c d f g : UInt8) (h : 5 < (ByteArray.mk #[a, b, c, d, f, g]).size) : (ByteArray.mk #[a, b, c, d, f, g])[5]'h = g := rfl
attribute [local go_sem] ba6_5
theorem drewN_drewN (w : World) (n m : Nat) : (w.drewN n).drewN m = w.drewN (n + m) := by simp [World.drewN, Nat.add_assoc]
theorem u8_45 : (45 : UInt8).toNat = 45 := rfl
theorem u8_48 : (48 : UInt8).toNat = 48 := rfl
theorem u8_87 : (87 : UInt8).toNat = 87 := rfl
attribute [local go_sem] u8_45 u8_48 u8_87

def fitN (a b c d : UInt8) : Prop := ((a.toNat : Int) = 45) ∧ (48 ≤ (b.toNat : Int) ∧ (b.toNat : Int) ≤ 57) ∧ (48 ≤ (c.toNat : Int) ∧ (c.toNat : Int) ≤ 57) ∧ (48 ≤ (d.toNat : Int) ∧ (d.toNat : Int) ≤ 57)
def staN (a b c d : UInt8) (k : Nat) (x y z : Value) : Prop :=
  (k = 0 ∧ x = .int .i64 0 ∧ y = .int .i64 0 ∧ z = .int .i64 0) ∨ (k = 1 ∧ x = .int .i64 0 ∧ y = .int .i64 0 ∧ z = .int .i64 0 ∧ ((a.toNat : Int) = 45)) ∨ (k = 2 ∧ x = .int .i64 ((b.toNat : Int) - 48) ∧ y = .int .i64 ((b.toNat : Int) - 48) ∧ z = .int .i64 1 ∧ ((a.toNat : Int) = 45) ∧ (48 ≤ (b.toNat : Int) ∧ (b.toNat : Int) ≤ 57)) ∨ (k = 3 ∧ x = .int .i64 (((b.toNat : Int) - 48) * 10 + ((c.toNat : Int) - 48)) ∧ y = .int .i64 (((b.toNat : Int) - 48) * 10 + ((c.toNat : Int) - 48)) ∧ z = .int .i64 1 ∧ ((a.toNat : Int) = 45) ∧ (48 ≤ (b.toNat : Int) ∧ (b.toNat : Int) ≤ 57) ∧ (48 ≤ (c.toNat : Int) ∧ (c.toNat : Int) ≤ 57)) ∨ (k = 4 ∧ x = .int .i64 ((((b.toNat : Int) - 48) * 10 + ((c.toNat : Int) - 48)) * 10 + ((d.toNat : Int) - 48)) ∧ y = .int .i64 ((((b.toNat : Int) - 48) * 10 + ((c.toNat : Int) - 48)) * 10 + ((d.toNat : Int) - 48)) ∧ z = .int .i64 1 ∧ ((a.toNat : Int) = 45) ∧ (48 ≤ (b.toNat : Int) ∧ (b.toNat : Int) ≤ 57) ∧ (48 ≤ (c.toNat : Int) ∧ (c.toNat : Int) ≤ 57) ∧ (48 ≤ (d.toNat : Int) ∧ (d.toNat : Int) ≤ 57))
set_option maxHeartbeats 4000000 in
theorem numsN (a b c d : UInt8) (w : World) :
    Calls Tryz.prog 77 #[.string ⟨#[a, b, c, d]⟩, .string ⟨#[45, 48, 48, 48]⟩] w fun e w' => ((fitN a b c d ∧ e = .returned (.tuple #[.int .i64 ((((b.toNat : Int) - 48) * 10 + ((c.toNat : Int) - 48)) * 10 + ((d.toNat : Int) - 48)), .int .i64 ((((b.toNat : Int) - 48) * 10 + ((c.toNat : Int) - 48)) * 10 + ((d.toNat : Int) - 48)), .bool true])) ∨ (¬ fitN a b c d ∧ e = .returned (.tuple #[.int .i64 0, .int .i64 0, .bool false]))) ∧ ∃ nq, w' = w.drewN nq := by
  go_enter Tryz.func77, Tryz.ntmps77
  go_wp2
  go_loopw [7, 8, 9, 18] (fun x y z i wr => (∃ nq, wr = w.drewN nq) ∧ ∃ k : Nat, i = .int .i64 k ∧ staN a b c d k x y z) (fun _ _ _ i _ => (4 - intOf i).toNat)
  case atStart => exact ⟨⟨0, rfl⟩, 0, rfl, .inl ⟨rfl, rfl, rfl, rfl⟩⟩
  case round =>
    obtain ⟨⟨nq, rfl⟩, k, rfl, hk⟩ := hrel
    have ua := a.toNat_lt
    have ub := b.toNat_lt
    have uc := c.toNat_lt
    have ud := d.toNat_lt
    unfold staN at hk
    rcases hk with ⟨rfl, rfl, rfl, rfl⟩ | ⟨rfl, rfl, rfl, rfl, q0⟩ | ⟨rfl, rfl, rfl, rfl, q0, q1⟩ | ⟨rfl, rfl, rfl, rfl, q0, q1, q2⟩ | ⟨rfl, rfl, rfl, rfl, q0, q1, q2, q3⟩
    · by_cases q0 : ((a.toNat : Int) = 45)
      · have dd : ((a.toNat : Int) != 45) = false := by simpa using q0
        go_wp2
        go_quiet (fail)
        go_wp2
        all_goals go_roundw
        case rel => exact ⟨by first | exact ⟨_, rfl⟩ | exact ⟨_, drewN_drewN _ _ _⟩, 1, rfl, .inr (.inl ⟨rfl, rfl, rfl, rfl, q0⟩)⟩
        case measure => simp [intOf]; try omega
      · have dd : ((a.toNat : Int) != 45) = true := by simpa using q0
        go_wp2
        go_quiet (fail)
        go_wp2
        go_returns
        exact ⟨.inr ⟨fun h => by unfold fitN at h; omega, rfl⟩, by first | exact ⟨_, rfl⟩ | exact ⟨_, drewN_drewN _ _ _⟩⟩
    · by_cases q1 : (48 ≤ (b.toNat : Int) ∧ (b.toNat : Int) ≤ 57)
      · go_wp2
        all_goals go_roundw
        case rel => exact ⟨by first | exact ⟨_, rfl⟩ | exact ⟨_, drewN_drewN _ _ _⟩, 2, rfl, .inr (.inr (.inl ⟨rfl, rfl, rfl, rfl, q0, q1⟩))⟩
        case measure => simp [intOf]; try omega
      · by_cases r : (b.toNat : Int) < 48
        · clear q1
          go_wp2
          go_returns
          exact ⟨.inr ⟨fun h => by unfold fitN at h; omega, rfl⟩, by first | exact ⟨_, rfl⟩ | exact ⟨_, drewN_drewN _ _ _⟩⟩
        · have r2 : 57 < (b.toNat : Int) := by omega
          clear q1
          go_wp2
          go_returns
          exact ⟨.inr ⟨fun h => by unfold fitN at h; omega, rfl⟩, by first | exact ⟨_, rfl⟩ | exact ⟨_, drewN_drewN _ _ _⟩⟩
    · by_cases q2 : (48 ≤ (c.toNat : Int) ∧ (c.toNat : Int) ≤ 57)
      · go_wp2
        all_goals go_roundw
        case rel => exact ⟨by first | exact ⟨_, rfl⟩ | exact ⟨_, drewN_drewN _ _ _⟩, 3, rfl, .inr (.inr (.inr (.inl ⟨rfl, rfl, rfl, rfl, q0, q1, q2⟩)))⟩
        case measure => simp [intOf]; try omega
      · by_cases r : (c.toNat : Int) < 48
        · clear q2
          go_wp2
          go_returns
          exact ⟨.inr ⟨fun h => by unfold fitN at h; omega, rfl⟩, by first | exact ⟨_, rfl⟩ | exact ⟨_, drewN_drewN _ _ _⟩⟩
        · have r2 : 57 < (c.toNat : Int) := by omega
          clear q2
          go_wp2
          go_returns
          exact ⟨.inr ⟨fun h => by unfold fitN at h; omega, rfl⟩, by first | exact ⟨_, rfl⟩ | exact ⟨_, drewN_drewN _ _ _⟩⟩
    · by_cases q3 : (48 ≤ (d.toNat : Int) ∧ (d.toNat : Int) ≤ 57)
      · go_wp2
        all_goals go_roundw
        case rel => exact ⟨by first | exact ⟨_, rfl⟩ | exact ⟨_, drewN_drewN _ _ _⟩, 4, rfl, .inr (.inr (.inr (.inr (⟨rfl, rfl, rfl, rfl, q0, q1, q2, q3⟩))))⟩
        case measure => simp [intOf]; try omega
      · by_cases r : (d.toNat : Int) < 48
        · clear q3
          go_wp2
          go_returns
          exact ⟨.inr ⟨fun h => by unfold fitN at h; omega, rfl⟩, by first | exact ⟨_, rfl⟩ | exact ⟨_, drewN_drewN _ _ _⟩⟩
        · have r2 : 57 < (d.toNat : Int) := by omega
          clear q3
          go_wp2
          go_returns
          exact ⟨.inr ⟨fun h => by unfold fitN at h; omega, rfl⟩, by first | exact ⟨_, rfl⟩ | exact ⟨_, drewN_drewN _ _ _⟩⟩
    · go_wp2
      go_returns
      exact ⟨.inl ⟨⟨q0, q1, q2, q3⟩, rfl⟩, _, rfl⟩

def fitY (a b c d : UInt8) : Prop := (48 ≤ (a.toNat : Int) ∧ (a.toNat : Int) ≤ 57) ∧ (48 ≤ (b.toNat : Int) ∧ (b.toNat : Int) ≤ 57) ∧ (48 ≤ (c.toNat : Int) ∧ (c.toNat : Int) ≤ 57) ∧ (48 ≤ (d.toNat : Int) ∧ (d.toNat : Int) ≤ 57)
def staY (a b c d : UInt8) (k : Nat) (x y z : Value) : Prop :=
  (k = 0 ∧ x = .int .i64 0 ∧ y = .int .i64 0 ∧ z = .int .i64 0) ∨ (k = 1 ∧ x = .int .i64 ((a.toNat : Int) - 48) ∧ y = .int .i64 ((a.toNat : Int) - 48) ∧ z = .int .i64 1 ∧ (48 ≤ (a.toNat : Int) ∧ (a.toNat : Int) ≤ 57)) ∨ (k = 2 ∧ x = .int .i64 (((a.toNat : Int) - 48) * 10 + ((b.toNat : Int) - 48)) ∧ y = .int .i64 (((a.toNat : Int) - 48) * 10 + ((b.toNat : Int) - 48)) ∧ z = .int .i64 1 ∧ (48 ≤ (a.toNat : Int) ∧ (a.toNat : Int) ≤ 57) ∧ (48 ≤ (b.toNat : Int) ∧ (b.toNat : Int) ≤ 57)) ∨ (k = 3 ∧ x = .int .i64 ((((a.toNat : Int) - 48) * 10 + ((b.toNat : Int) - 48)) * 10 + ((c.toNat : Int) - 48)) ∧ y = .int .i64 ((((a.toNat : Int) - 48) * 10 + ((b.toNat : Int) - 48)) * 10 + ((c.toNat : Int) - 48)) ∧ z = .int .i64 1 ∧ (48 ≤ (a.toNat : Int) ∧ (a.toNat : Int) ≤ 57) ∧ (48 ≤ (b.toNat : Int) ∧ (b.toNat : Int) ≤ 57) ∧ (48 ≤ (c.toNat : Int) ∧ (c.toNat : Int) ≤ 57)) ∨ (k = 4 ∧ x = .int .i64 (((((a.toNat : Int) - 48) * 10 + ((b.toNat : Int) - 48)) * 10 + ((c.toNat : Int) - 48)) * 10 + ((d.toNat : Int) - 48)) ∧ y = .int .i64 (((((a.toNat : Int) - 48) * 10 + ((b.toNat : Int) - 48)) * 10 + ((c.toNat : Int) - 48)) * 10 + ((d.toNat : Int) - 48)) ∧ z = .int .i64 1 ∧ (48 ≤ (a.toNat : Int) ∧ (a.toNat : Int) ≤ 57) ∧ (48 ≤ (b.toNat : Int) ∧ (b.toNat : Int) ≤ 57) ∧ (48 ≤ (c.toNat : Int) ∧ (c.toNat : Int) ≤ 57) ∧ (48 ≤ (d.toNat : Int) ∧ (d.toNat : Int) ≤ 57))
set_option maxHeartbeats 4000000 in
theorem numsY (a b c d : UInt8) (w : World) :
    Calls Tryz.prog 77 #[.string ⟨#[a, b, c, d]⟩, .string ⟨#[48, 48, 48, 48]⟩] w fun e w' => ((fitY a b c d ∧ e = .returned (.tuple #[.int .i64 (((((a.toNat : Int) - 48) * 10 + ((b.toNat : Int) - 48)) * 10 + ((c.toNat : Int) - 48)) * 10 + ((d.toNat : Int) - 48)), .int .i64 (((((a.toNat : Int) - 48) * 10 + ((b.toNat : Int) - 48)) * 10 + ((c.toNat : Int) - 48)) * 10 + ((d.toNat : Int) - 48)), .bool true])) ∨ (¬ fitY a b c d ∧ e = .returned (.tuple #[.int .i64 0, .int .i64 0, .bool false]))) ∧ ∃ nq, w' = w.drewN nq := by
  go_enter Tryz.func77, Tryz.ntmps77
  go_wp2
  go_loopw [7, 8, 9, 18] (fun x y z i wr => (∃ nq, wr = w.drewN nq) ∧ ∃ k : Nat, i = .int .i64 k ∧ staY a b c d k x y z) (fun _ _ _ i _ => (4 - intOf i).toNat)
  case atStart => exact ⟨⟨0, rfl⟩, 0, rfl, .inl ⟨rfl, rfl, rfl, rfl⟩⟩
  case round =>
    obtain ⟨⟨nq, rfl⟩, k, rfl, hk⟩ := hrel
    have ua := a.toNat_lt
    have ub := b.toNat_lt
    have uc := c.toNat_lt
    have ud := d.toNat_lt
    unfold staY at hk
    rcases hk with ⟨rfl, rfl, rfl, rfl⟩ | ⟨rfl, rfl, rfl, rfl, q0⟩ | ⟨rfl, rfl, rfl, rfl, q0, q1⟩ | ⟨rfl, rfl, rfl, rfl, q0, q1, q2⟩ | ⟨rfl, rfl, rfl, rfl, q0, q1, q2, q3⟩
    · by_cases q0 : (48 ≤ (a.toNat : Int) ∧ (a.toNat : Int) ≤ 57)
      · go_wp2
        all_goals go_roundw
        case rel => exact ⟨by first | exact ⟨_, rfl⟩ | exact ⟨_, drewN_drewN _ _ _⟩, 1, rfl, .inr (.inl ⟨rfl, rfl, rfl, rfl, q0⟩)⟩
        case measure => simp [intOf]; try omega
      · by_cases r : (a.toNat : Int) < 48
        · clear q0
          go_wp2
          go_returns
          exact ⟨.inr ⟨fun h => by unfold fitY at h; omega, rfl⟩, by first | exact ⟨_, rfl⟩ | exact ⟨_, drewN_drewN _ _ _⟩⟩
        · have r2 : 57 < (a.toNat : Int) := by omega
          clear q0
          go_wp2
          go_returns
          exact ⟨.inr ⟨fun h => by unfold fitY at h; omega, rfl⟩, by first | exact ⟨_, rfl⟩ | exact ⟨_, drewN_drewN _ _ _⟩⟩
    · by_cases q1 : (48 ≤ (b.toNat : Int) ∧ (b.toNat : Int) ≤ 57)
      · go_wp2
        all_goals go_roundw
        case rel => exact ⟨by first | exact ⟨_, rfl⟩ | exact ⟨_, drewN_drewN _ _ _⟩, 2, rfl, .inr (.inr (.inl ⟨rfl, rfl, rfl, rfl, q0, q1⟩))⟩
        case measure => simp [intOf]; try omega
      · by_cases r : (b.toNat : Int) < 48
        · clear q1
          go_wp2
          go_returns
          exact ⟨.inr ⟨fun h => by unfold fitY at h; omega, rfl⟩, by first | exact ⟨_, rfl⟩ | exact ⟨_, drewN_drewN _ _ _⟩⟩
        · have r2 : 57 < (b.toNat : Int) := by omega
          clear q1
          go_wp2
          go_returns
          exact ⟨.inr ⟨fun h => by unfold fitY at h; omega, rfl⟩, by first | exact ⟨_, rfl⟩ | exact ⟨_, drewN_drewN _ _ _⟩⟩
    · by_cases q2 : (48 ≤ (c.toNat : Int) ∧ (c.toNat : Int) ≤ 57)
      · go_wp2
        all_goals go_roundw
        case rel => exact ⟨by first | exact ⟨_, rfl⟩ | exact ⟨_, drewN_drewN _ _ _⟩, 3, rfl, .inr (.inr (.inr (.inl ⟨rfl, rfl, rfl, rfl, q0, q1, q2⟩)))⟩
        case measure => simp [intOf]; try omega
      · by_cases r : (c.toNat : Int) < 48
        · clear q2
          go_wp2
          go_returns
          exact ⟨.inr ⟨fun h => by unfold fitY at h; omega, rfl⟩, by first | exact ⟨_, rfl⟩ | exact ⟨_, drewN_drewN _ _ _⟩⟩
        · have r2 : 57 < (c.toNat : Int) := by omega
          clear q2
          go_wp2
          go_returns
          exact ⟨.inr ⟨fun h => by unfold fitY at h; omega, rfl⟩, by first | exact ⟨_, rfl⟩ | exact ⟨_, drewN_drewN _ _ _⟩⟩
    · by_cases q3 : (48 ≤ (d.toNat : Int) ∧ (d.toNat : Int) ≤ 57)
      · go_wp2
        all_goals go_roundw
        case rel => exact ⟨by first | exact ⟨_, rfl⟩ | exact ⟨_, drewN_drewN _ _ _⟩, 4, rfl, .inr (.inr (.inr (.inr (⟨rfl, rfl, rfl, rfl, q0, q1, q2, q3⟩))))⟩
        case measure => simp [intOf]; try omega
      · by_cases r : (d.toNat : Int) < 48
        · clear q3
          go_wp2
          go_returns
          exact ⟨.inr ⟨fun h => by unfold fitY at h; omega, rfl⟩, by first | exact ⟨_, rfl⟩ | exact ⟨_, drewN_drewN _ _ _⟩⟩
        · have r2 : 57 < (d.toNat : Int) := by omega
          clear q3
          go_wp2
          go_returns
          exact ⟨.inr ⟨fun h => by unfold fitY at h; omega, rfl⟩, by first | exact ⟨_, rfl⟩ | exact ⟨_, drewN_drewN _ _ _⟩⟩
    · go_wp2
      go_returns
      exact ⟨.inl ⟨⟨q0, q1, q2, q3⟩, rfl⟩, _, rfl⟩

def fitD (a b c d f g : UInt8) : Prop := ((a.toNat : Int) = 45) ∧ (48 ≤ (b.toNat : Int) ∧ (b.toNat : Int) ≤ 57) ∧ (48 ≤ (c.toNat : Int) ∧ (c.toNat : Int) ≤ 57) ∧ ((d.toNat : Int) = 45) ∧ (48 ≤ (f.toNat : Int) ∧ (f.toNat : Int) ≤ 57) ∧ (48 ≤ (g.toNat : Int) ∧ (g.toNat : Int) ≤ 57)
def staD (a b c d f g : UInt8) (k : Nat) (x y z : Value) : Prop :=
  (k = 0 ∧ x = .int .i64 0 ∧ y = .int .i64 0 ∧ z = .int .i64 0) ∨ (k = 1 ∧ x = .int .i64 0 ∧ y = .int .i64 0 ∧ z = .int .i64 0 ∧ ((a.toNat : Int) = 45)) ∨ (k = 2 ∧ x = .int .i64 ((b.toNat : Int) - 48) ∧ y = .int .i64 ((b.toNat : Int) - 48) ∧ z = .int .i64 1 ∧ ((a.toNat : Int) = 45) ∧ (48 ≤ (b.toNat : Int) ∧ (b.toNat : Int) ≤ 57)) ∨ (k = 3 ∧ x = .int .i64 (((b.toNat : Int) - 48) * 10 + ((c.toNat : Int) - 48)) ∧ y = .int .i64 (((b.toNat : Int) - 48) * 10 + ((c.toNat : Int) - 48)) ∧ z = .int .i64 1 ∧ ((a.toNat : Int) = 45) ∧ (48 ≤ (b.toNat : Int) ∧ (b.toNat : Int) ≤ 57) ∧ (48 ≤ (c.toNat : Int) ∧ (c.toNat : Int) ≤ 57)) ∨ (k = 4 ∧ x = .int .i64 (((b.toNat : Int) - 48) * 10 + ((c.toNat : Int) - 48)) ∧ y = .int .i64 (((b.toNat : Int) - 48) * 10 + ((c.toNat : Int) - 48)) ∧ z = .int .i64 1 ∧ ((a.toNat : Int) = 45) ∧ (48 ≤ (b.toNat : Int) ∧ (b.toNat : Int) ≤ 57) ∧ (48 ≤ (c.toNat : Int) ∧ (c.toNat : Int) ≤ 57) ∧ ((d.toNat : Int) = 45)) ∨ (k = 5 ∧ x = .int .i64 (((b.toNat : Int) - 48) * 10 + ((c.toNat : Int) - 48)) ∧ y = .int .i64 ((f.toNat : Int) - 48) ∧ z = .int .i64 2 ∧ ((a.toNat : Int) = 45) ∧ (48 ≤ (b.toNat : Int) ∧ (b.toNat : Int) ≤ 57) ∧ (48 ≤ (c.toNat : Int) ∧ (c.toNat : Int) ≤ 57) ∧ ((d.toNat : Int) = 45) ∧ (48 ≤ (f.toNat : Int) ∧ (f.toNat : Int) ≤ 57)) ∨ (k = 6 ∧ x = .int .i64 (((b.toNat : Int) - 48) * 10 + ((c.toNat : Int) - 48)) ∧ y = .int .i64 (((f.toNat : Int) - 48) * 10 + ((g.toNat : Int) - 48)) ∧ z = .int .i64 2 ∧ ((a.toNat : Int) = 45) ∧ (48 ≤ (b.toNat : Int) ∧ (b.toNat : Int) ≤ 57) ∧ (48 ≤ (c.toNat : Int) ∧ (c.toNat : Int) ≤ 57) ∧ ((d.toNat : Int) = 45) ∧ (48 ≤ (f.toNat : Int) ∧ (f.toNat : Int) ≤ 57) ∧ (48 ≤ (g.toNat : Int) ∧ (g.toNat : Int) ≤ 57))
set_option maxHeartbeats 4000000 in
theorem numsD (a b c d f g : UInt8) (w : World) :
    Calls Tryz.prog 77 #[.string ⟨#[a, b, c, d, f, g]⟩, .string ⟨#[45, 48, 48, 45, 48, 48]⟩] w fun e w' => ((fitD a b c d f g ∧ e = .returned (.tuple #[.int .i64 (((b.toNat : Int) - 48) * 10 + ((c.toNat : Int) - 48)), .int .i64 (((f.toNat : Int) - 48) * 10 + ((g.toNat : Int) - 48)), .bool true])) ∨ (¬ fitD a b c d f g ∧ e = .returned (.tuple #[.int .i64 0, .int .i64 0, .bool false]))) ∧ ∃ nq, w' = w.drewN nq := by
  go_enter Tryz.func77, Tryz.ntmps77
  go_wp2
  go_loopw [7, 8, 9, 18] (fun x y z i wr => (∃ nq, wr = w.drewN nq) ∧ ∃ k : Nat, i = .int .i64 k ∧ staD a b c d f g k x y z) (fun _ _ _ i _ => (6 - intOf i).toNat)
  case atStart => exact ⟨⟨0, rfl⟩, 0, rfl, .inl ⟨rfl, rfl, rfl, rfl⟩⟩
  case round =>
    obtain ⟨⟨nq, rfl⟩, k, rfl, hk⟩ := hrel
    have ua := a.toNat_lt
    have ub := b.toNat_lt
    have uc := c.toNat_lt
    have ud := d.toNat_lt
    have uf := f.toNat_lt
    have ug := g.toNat_lt
    unfold staD at hk
    rcases hk with ⟨rfl, rfl, rfl, rfl⟩ | ⟨rfl, rfl, rfl, rfl, q0⟩ | ⟨rfl, rfl, rfl, rfl, q0, q1⟩ | ⟨rfl, rfl, rfl, rfl, q0, q1, q2⟩ | ⟨rfl, rfl, rfl, rfl, q0, q1, q2, q3⟩ | ⟨rfl, rfl, rfl, rfl, q0, q1, q2, q3, q4⟩ | ⟨rfl, rfl, rfl, rfl, q0, q1, q2, q3, q4, q5⟩
    · by_cases q0 : ((a.toNat : Int) = 45)
      · have dd : ((a.toNat : Int) != 45) = false := by simpa using q0
        go_wp2
        go_quiet (fail)
        go_wp2
        all_goals go_roundw
        case rel => exact ⟨by first | exact ⟨_, rfl⟩ | exact ⟨_, drewN_drewN _ _ _⟩, 1, rfl, .inr (.inl ⟨rfl, rfl, rfl, rfl, q0⟩)⟩
        case measure => simp [intOf]; try omega
      · have dd : ((a.toNat : Int) != 45) = true := by simpa using q0
        go_wp2
        go_quiet (fail)
        go_wp2
        go_returns
        exact ⟨.inr ⟨fun h => by unfold fitD at h; omega, rfl⟩, by first | exact ⟨_, rfl⟩ | exact ⟨_, drewN_drewN _ _ _⟩⟩
    · by_cases q1 : (48 ≤ (b.toNat : Int) ∧ (b.toNat : Int) ≤ 57)
      · go_wp2
        all_goals go_roundw
        case rel => exact ⟨by first | exact ⟨_, rfl⟩ | exact ⟨_, drewN_drewN _ _ _⟩, 2, rfl, .inr (.inr (.inl ⟨rfl, rfl, rfl, rfl, q0, q1⟩))⟩
        case measure => simp [intOf]; try omega
      · by_cases r : (b.toNat : Int) < 48
        · clear q1
          go_wp2
          go_returns
          exact ⟨.inr ⟨fun h => by unfold fitD at h; omega, rfl⟩, by first | exact ⟨_, rfl⟩ | exact ⟨_, drewN_drewN _ _ _⟩⟩
        · have r2 : 57 < (b.toNat : Int) := by omega
          clear q1
          go_wp2
          go_returns
          exact ⟨.inr ⟨fun h => by unfold fitD at h; omega, rfl⟩, by first | exact ⟨_, rfl⟩ | exact ⟨_, drewN_drewN _ _ _⟩⟩
    · by_cases q2 : (48 ≤ (c.toNat : Int) ∧ (c.toNat : Int) ≤ 57)
      · go_wp2
        all_goals go_roundw
        case rel => exact ⟨by first | exact ⟨_, rfl⟩ | exact ⟨_, drewN_drewN _ _ _⟩, 3, rfl, .inr (.inr (.inr (.inl ⟨rfl, rfl, rfl, rfl, q0, q1, q2⟩)))⟩
        case measure => simp [intOf]; try omega
      · by_cases r : (c.toNat : Int) < 48
        · clear q2
          go_wp2
          go_returns
          exact ⟨.inr ⟨fun h => by unfold fitD at h; omega, rfl⟩, by first | exact ⟨_, rfl⟩ | exact ⟨_, drewN_drewN _ _ _⟩⟩
        · have r2 : 57 < (c.toNat : Int) := by omega
          clear q2
          go_wp2
          go_returns
          exact ⟨.inr ⟨fun h => by unfold fitD at h; omega, rfl⟩, by first | exact ⟨_, rfl⟩ | exact ⟨_, drewN_drewN _ _ _⟩⟩
    · by_cases q3 : ((d.toNat : Int) = 45)
      · have dd : ((d.toNat : Int) != 45) = false := by simpa using q3
        go_wp2
        go_quiet (fail)
        go_wp2
        all_goals go_roundw
        case rel => exact ⟨by first | exact ⟨_, rfl⟩ | exact ⟨_, drewN_drewN _ _ _⟩, 4, rfl, .inr (.inr (.inr (.inr (.inl ⟨rfl, rfl, rfl, rfl, q0, q1, q2, q3⟩))))⟩
        case measure => simp [intOf]; try omega
      · have dd : ((d.toNat : Int) != 45) = true := by simpa using q3
        go_wp2
        go_quiet (fail)
        go_wp2
        go_returns
        exact ⟨.inr ⟨fun h => by unfold fitD at h; omega, rfl⟩, by first | exact ⟨_, rfl⟩ | exact ⟨_, drewN_drewN _ _ _⟩⟩
    · by_cases q4 : (48 ≤ (f.toNat : Int) ∧ (f.toNat : Int) ≤ 57)
      · go_wp2
        all_goals go_roundw
        case rel => exact ⟨by first | exact ⟨_, rfl⟩ | exact ⟨_, drewN_drewN _ _ _⟩, 5, rfl, .inr (.inr (.inr (.inr (.inr (.inl ⟨rfl, rfl, rfl, rfl, q0, q1, q2, q3, q4⟩)))))⟩
        case measure => simp [intOf]; try omega
      · by_cases r : (f.toNat : Int) < 48
        · clear q4
          go_wp2
          go_returns
          exact ⟨.inr ⟨fun h => by unfold fitD at h; omega, rfl⟩, by first | exact ⟨_, rfl⟩ | exact ⟨_, drewN_drewN _ _ _⟩⟩
        · have r2 : 57 < (f.toNat : Int) := by omega
          clear q4
          go_wp2
          go_returns
          exact ⟨.inr ⟨fun h => by unfold fitD at h; omega, rfl⟩, by first | exact ⟨_, rfl⟩ | exact ⟨_, drewN_drewN _ _ _⟩⟩
    · by_cases q5 : (48 ≤ (g.toNat : Int) ∧ (g.toNat : Int) ≤ 57)
      · go_wp2
        all_goals go_roundw
        case rel => exact ⟨by first | exact ⟨_, rfl⟩ | exact ⟨_, drewN_drewN _ _ _⟩, 6, rfl, .inr (.inr (.inr (.inr (.inr (.inr (⟨rfl, rfl, rfl, rfl, q0, q1, q2, q3, q4, q5⟩))))))⟩
        case measure => simp [intOf]; try omega
      · by_cases r : (g.toNat : Int) < 48
        · clear q5
          go_wp2
          go_returns
          exact ⟨.inr ⟨fun h => by unfold fitD at h; omega, rfl⟩, by first | exact ⟨_, rfl⟩ | exact ⟨_, drewN_drewN _ _ _⟩⟩
        · have r2 : 57 < (g.toNat : Int) := by omega
          clear q5
          go_wp2
          go_returns
          exact ⟨.inr ⟨fun h => by unfold fitD at h; omega, rfl⟩, by first | exact ⟨_, rfl⟩ | exact ⟨_, drewN_drewN _ _ _⟩⟩
    · go_wp2
      go_returns
      exact ⟨.inl ⟨⟨q0, q1, q2, q3, q4, q5⟩, rfl⟩, _, rfl⟩

def fitW (a b c d f g : UInt8) : Prop := ((a.toNat : Int) = 45) ∧ ((b.toNat : Int) = 87) ∧ (48 ≤ (c.toNat : Int) ∧ (c.toNat : Int) ≤ 57) ∧ (48 ≤ (d.toNat : Int) ∧ (d.toNat : Int) ≤ 57) ∧ ((f.toNat : Int) = 45) ∧ (48 ≤ (g.toNat : Int) ∧ (g.toNat : Int) ≤ 57)
def staW (a b c d f g : UInt8) (k : Nat) (x y z : Value) : Prop :=
  (k = 0 ∧ x = .int .i64 0 ∧ y = .int .i64 0 ∧ z = .int .i64 0) ∨ (k = 1 ∧ x = .int .i64 0 ∧ y = .int .i64 0 ∧ z = .int .i64 0 ∧ ((a.toNat : Int) = 45)) ∨ (k = 2 ∧ x = .int .i64 0 ∧ y = .int .i64 0 ∧ z = .int .i64 0 ∧ ((a.toNat : Int) = 45) ∧ ((b.toNat : Int) = 87)) ∨ (k = 3 ∧ x = .int .i64 ((c.toNat : Int) - 48) ∧ y = .int .i64 ((c.toNat : Int) - 48) ∧ z = .int .i64 1 ∧ ((a.toNat : Int) = 45) ∧ ((b.toNat : Int) = 87) ∧ (48 ≤ (c.toNat : Int) ∧ (c.toNat : Int) ≤ 57)) ∨ (k = 4 ∧ x = .int .i64 (((c.toNat : Int) - 48) * 10 + ((d.toNat : Int) - 48)) ∧ y = .int .i64 (((c.toNat : Int) - 48) * 10 + ((d.toNat : Int) - 48)) ∧ z = .int .i64 1 ∧ ((a.toNat : Int) = 45) ∧ ((b.toNat : Int) = 87) ∧ (48 ≤ (c.toNat : Int) ∧ (c.toNat : Int) ≤ 57) ∧ (48 ≤ (d.toNat : Int) ∧ (d.toNat : Int) ≤ 57)) ∨ (k = 5 ∧ x = .int .i64 (((c.toNat : Int) - 48) * 10 + ((d.toNat : Int) - 48)) ∧ y = .int .i64 (((c.toNat : Int) - 48) * 10 + ((d.toNat : Int) - 48)) ∧ z = .int .i64 1 ∧ ((a.toNat : Int) = 45) ∧ ((b.toNat : Int) = 87) ∧ (48 ≤ (c.toNat : Int) ∧ (c.toNat : Int) ≤ 57) ∧ (48 ≤ (d.toNat : Int) ∧ (d.toNat : Int) ≤ 57) ∧ ((f.toNat : Int) = 45)) ∨ (k = 6 ∧ x = .int .i64 (((c.toNat : Int) - 48) * 10 + ((d.toNat : Int) - 48)) ∧ y = .int .i64 ((g.toNat : Int) - 48) ∧ z = .int .i64 2 ∧ ((a.toNat : Int) = 45) ∧ ((b.toNat : Int) = 87) ∧ (48 ≤ (c.toNat : Int) ∧ (c.toNat : Int) ≤ 57) ∧ (48 ≤ (d.toNat : Int) ∧ (d.toNat : Int) ≤ 57) ∧ ((f.toNat : Int) = 45) ∧ (48 ≤ (g.toNat : Int) ∧ (g.toNat : Int) ≤ 57))
set_option maxHeartbeats 4000000 in
theorem numsW (a b c d f g : UInt8) (w : World) :
    Calls Tryz.prog 77 #[.string ⟨#[a, b, c, d, f, g]⟩, .string ⟨#[45, 87, 48, 48, 45, 48]⟩] w fun e w' => ((fitW a b c d f g ∧ e = .returned (.tuple #[.int .i64 (((c.toNat : Int) - 48) * 10 + ((d.toNat : Int) - 48)), .int .i64 ((g.toNat : Int) - 48), .bool true])) ∨ (¬ fitW a b c d f g ∧ e = .returned (.tuple #[.int .i64 0, .int .i64 0, .bool false]))) ∧ ∃ nq, w' = w.drewN nq := by
  go_enter Tryz.func77, Tryz.ntmps77
  go_wp2
  go_loopw [7, 8, 9, 18] (fun x y z i wr => (∃ nq, wr = w.drewN nq) ∧ ∃ k : Nat, i = .int .i64 k ∧ staW a b c d f g k x y z) (fun _ _ _ i _ => (6 - intOf i).toNat)
  case atStart => exact ⟨⟨0, rfl⟩, 0, rfl, .inl ⟨rfl, rfl, rfl, rfl⟩⟩
  case round =>
    obtain ⟨⟨nq, rfl⟩, k, rfl, hk⟩ := hrel
    have ua := a.toNat_lt
    have ub := b.toNat_lt
    have uc := c.toNat_lt
    have ud := d.toNat_lt
    have uf := f.toNat_lt
    have ug := g.toNat_lt
    unfold staW at hk
    rcases hk with ⟨rfl, rfl, rfl, rfl⟩ | ⟨rfl, rfl, rfl, rfl, q0⟩ | ⟨rfl, rfl, rfl, rfl, q0, q1⟩ | ⟨rfl, rfl, rfl, rfl, q0, q1, q2⟩ | ⟨rfl, rfl, rfl, rfl, q0, q1, q2, q3⟩ | ⟨rfl, rfl, rfl, rfl, q0, q1, q2, q3, q4⟩ | ⟨rfl, rfl, rfl, rfl, q0, q1, q2, q3, q4, q5⟩
    · by_cases q0 : ((a.toNat : Int) = 45)
      · have dd : ((a.toNat : Int) != 45) = false := by simpa using q0
        go_wp2
        go_quiet (fail)
        go_wp2
        all_goals go_roundw
        case rel => exact ⟨by first | exact ⟨_, rfl⟩ | exact ⟨_, drewN_drewN _ _ _⟩, 1, rfl, .inr (.inl ⟨rfl, rfl, rfl, rfl, q0⟩)⟩
        case measure => simp [intOf]; try omega
      · have dd : ((a.toNat : Int) != 45) = true := by simpa using q0
        go_wp2
        go_quiet (fail)
        go_wp2
        go_returns
        exact ⟨.inr ⟨fun h => by unfold fitW at h; omega, rfl⟩, by first | exact ⟨_, rfl⟩ | exact ⟨_, drewN_drewN _ _ _⟩⟩
    · by_cases q1 : ((b.toNat : Int) = 87)
      · have dd : ((b.toNat : Int) != 87) = false := by simpa using q1
        go_wp2
        go_quiet (fail)
        go_wp2
        all_goals go_roundw
        case rel => exact ⟨by first | exact ⟨_, rfl⟩ | exact ⟨_, drewN_drewN _ _ _⟩, 2, rfl, .inr (.inr (.inl ⟨rfl, rfl, rfl, rfl, q0, q1⟩))⟩
        case measure => simp [intOf]; try omega
      · have dd : ((b.toNat : Int) != 87) = true := by simpa using q1
        go_wp2
        go_quiet (fail)
        go_wp2
        go_returns
        exact ⟨.inr ⟨fun h => by unfold fitW at h; omega, rfl⟩, by first | exact ⟨_, rfl⟩ | exact ⟨_, drewN_drewN _ _ _⟩⟩
    · by_cases q2 : (48 ≤ (c.toNat : Int) ∧ (c.toNat : Int) ≤ 57)
      · go_wp2
        all_goals go_roundw
        case rel => exact ⟨by first | exact ⟨_, rfl⟩ | exact ⟨_, drewN_drewN _ _ _⟩, 3, rfl, .inr (.inr (.inr (.inl ⟨rfl, rfl, rfl, rfl, q0, q1, q2⟩)))⟩
        case measure => simp [intOf]; try omega
      · by_cases r : (c.toNat : Int) < 48
        · clear q2
          go_wp2
          go_returns
          exact ⟨.inr ⟨fun h => by unfold fitW at h; omega, rfl⟩, by first | exact ⟨_, rfl⟩ | exact ⟨_, drewN_drewN _ _ _⟩⟩
        · have r2 : 57 < (c.toNat : Int) := by omega
          clear q2
          go_wp2
          go_returns
          exact ⟨.inr ⟨fun h => by unfold fitW at h; omega, rfl⟩, by first | exact ⟨_, rfl⟩ | exact ⟨_, drewN_drewN _ _ _⟩⟩
    · by_cases q3 : (48 ≤ (d.toNat : Int) ∧ (d.toNat : Int) ≤ 57)
      · go_wp2
        all_goals go_roundw
        case rel => exact ⟨by first | exact ⟨_, rfl⟩ | exact ⟨_, drewN_drewN _ _ _⟩, 4, rfl, .inr (.inr (.inr (.inr (.inl ⟨rfl, rfl, rfl, rfl, q0, q1, q2, q3⟩))))⟩
        case measure => simp [intOf]; try omega
      · by_cases r : (d.toNat : Int) < 48
        · clear q3
          go_wp2
          go_returns
          exact ⟨.inr ⟨fun h => by unfold fitW at h; omega, rfl⟩, by first | exact ⟨_, rfl⟩ | exact ⟨_, drewN_drewN _ _ _⟩⟩
        · have r2 : 57 < (d.toNat : Int) := by omega
          clear q3
          go_wp2
          go_returns
          exact ⟨.inr ⟨fun h => by unfold fitW at h; omega, rfl⟩, by first | exact ⟨_, rfl⟩ | exact ⟨_, drewN_drewN _ _ _⟩⟩
    · by_cases q4 : ((f.toNat : Int) = 45)
      · have dd : ((f.toNat : Int) != 45) = false := by simpa using q4
        go_wp2
        go_quiet (fail)
        go_wp2
        all_goals go_roundw
        case rel => exact ⟨by first | exact ⟨_, rfl⟩ | exact ⟨_, drewN_drewN _ _ _⟩, 5, rfl, .inr (.inr (.inr (.inr (.inr (.inl ⟨rfl, rfl, rfl, rfl, q0, q1, q2, q3, q4⟩)))))⟩
        case measure => simp [intOf]; try omega
      · have dd : ((f.toNat : Int) != 45) = true := by simpa using q4
        go_wp2
        go_quiet (fail)
        go_wp2
        go_returns
        exact ⟨.inr ⟨fun h => by unfold fitW at h; omega, rfl⟩, by first | exact ⟨_, rfl⟩ | exact ⟨_, drewN_drewN _ _ _⟩⟩
    · by_cases q5 : (48 ≤ (g.toNat : Int) ∧ (g.toNat : Int) ≤ 57)
      · go_wp2
        all_goals go_roundw
        case rel => exact ⟨by first | exact ⟨_, rfl⟩ | exact ⟨_, drewN_drewN _ _ _⟩, 6, rfl, .inr (.inr (.inr (.inr (.inr (.inr (⟨rfl, rfl, rfl, rfl, q0, q1, q2, q3, q4, q5⟩))))))⟩
        case measure => simp [intOf]; try omega
      · by_cases r : (g.toNat : Int) < 48
        · clear q5
          go_wp2
          go_returns
          exact ⟨.inr ⟨fun h => by unfold fitW at h; omega, rfl⟩, by first | exact ⟨_, rfl⟩ | exact ⟨_, drewN_drewN _ _ _⟩⟩
        · have r2 : 57 < (g.toNat : Int) := by omega
          clear q5
          go_wp2
          go_returns
          exact ⟨.inr ⟨fun h => by unfold fitW at h; omega, rfl⟩, by first | exact ⟨_, rfl⟩ | exact ⟨_, drewN_drewN _ _ _⟩⟩
    · go_wp2
      go_returns
      exact ⟨.inl ⟨⟨q0, q1, q2, q3, q4, q5⟩, rfl⟩, _, rfl⟩

theorem numslN (s : ByteArray) (h : s.size ≠ 4) (w : World) :
    Calls Tryz.prog 77 #[.string s, .string ⟨#[45, 48, 48, 48]⟩] w fun e w' => e = .returned (.tuple #[.int .i64 0, .int .i64 0, .bool false]) ∧ w = w' := by
  have dd : ((s.size : Int) != 4) = true := by simp; omega
  clear h
  go_enter Tryz.func77, Tryz.ntmps77
  go_wp2
  go_returns
  exact ⟨rfl, rfl⟩
theorem numslY (s : ByteArray) (h : s.size ≠ 4) (w : World) :
    Calls Tryz.prog 77 #[.string s, .string ⟨#[48, 48, 48, 48]⟩] w fun e w' => e = .returned (.tuple #[.int .i64 0, .int .i64 0, .bool false]) ∧ w = w' := by
  have dd : ((s.size : Int) != 4) = true := by simp; omega
  clear h
  go_enter Tryz.func77, Tryz.ntmps77
  go_wp2
  go_returns
  exact ⟨rfl, rfl⟩
theorem numslD (s : ByteArray) (h : s.size ≠ 6) (w : World) :
    Calls Tryz.prog 77 #[.string s, .string ⟨#[45, 48, 48, 45, 48, 48]⟩] w fun e w' => e = .returned (.tuple #[.int .i64 0, .int .i64 0, .bool false]) ∧ w = w' := by
  have dd : ((s.size : Int) != 6) = true := by simp; omega
  clear h
  go_enter Tryz.func77, Tryz.ntmps77
  go_wp2
  go_returns
  exact ⟨rfl, rfl⟩
theorem numslW (s : ByteArray) (h : s.size ≠ 6) (w : World) :
    Calls Tryz.prog 77 #[.string s, .string ⟨#[45, 87, 48, 48, 45, 48]⟩] w fun e w' => e = .returned (.tuple #[.int .i64 0, .int .i64 0, .bool false]) ∧ w = w' := by
  have dd : ((s.size : Int) != 6) = true := by simp; omega
  clear h
  go_enter Tryz.func77, Tryz.ntmps77
  go_wp2
  go_returns
  exact ⟨rfl, rfl⟩
end
end Go.Proofs.YtimjendkpjojoaaGreatDoor
