/- The document's own answer for layer 8: where granules begin. -/
import Derived.Test.YtacpcokmgahjaaaDoorB11
import Derived.Test.YtacpcokmgahjaaaDoorRf2
namespace Go.Proofs.YtacpcokmgahjaaaDoor
set_option linter.unusedVariables false
set_option linter.unusedSimpArgs false
open Go.ChangeShapes Go.WideShapes Go.ChangeAt Go.RowKit
theorem dayS_up (m : Int) : dayS m < dayS (m + 1) := by
  unfold dayS Cal.num
  by_cases h : m % 12 = 11
  · have e1 : (m + 1) / 12 = m / 12 + 1 := by omega
    have e2 : (m + 1) % 12 = 0 := by omega
    have a := Cal.bef_bd (1970 + m / 12) (m % 12 + 1) (by omega) (by omega)
    have b := Cal.start_succ (1970 + m / 12)
    have c := Cal.lp_01 (1970 + m / 12)
    have d := Cal.bef_mono (1970 + m / 12) (m % 12 + 1) 13 (by omega) (by omega) (by omega)
    have f := Cal.bef_last (1970 + m / 12)
    have g := Cal.bef_one (1970 + m / 12 + 1)
    rw [e1, e2, show 1970 + (m / 12 + 1) = 1970 + m / 12 + 1 by omega, show (0 : Int) + 1 = 1 by rfl, g]
    omega
  · have e1 : (m + 1) / 12 = m / 12 := by omega
    have e2 : (m + 1) % 12 = m % 12 + 1 := by omega
    have d := Cal.bef_mono (1970 + m / 12) (m % 12 + 1) (m % 12 + 1 + 1) (by omega) (by omega) (by omega)
    rw [e1, e2]
    omega
theorem dayS_far (m : Int) (n : Nat) : dayS m + n ≤ dayS (m + n) := by
  induction n with
  | zero => simp
  | succ k ih => have := dayS_up (m + k); rw [show m + ((k + 1 : Nat) : Int) = m + k + 1 by omega]; omega
theorem dayS_mono {a b : Int} (h : a < b) : dayS a < dayS b := by
  have := dayS_far a (b - a).toNat
  rw [show a + (((b - a).toNat : Nat) : Int) = b by omega] at this
  omega
def bB : Nat → Int → Int
  | 0, q => q
  | 1, q => q
  | 2, q => 7 * q - 3
  | 3, q => dayS q
  | 4, q => dayS (3 * q)
  | _, q => dayS (12 * q)
theorem bB_up (i : Nat) (q : Int) : bB i q < bB i (q + 1) := by
  match i with
  | 0 => show q < q + 1; omega
  | 1 => show q < q + 1; omega
  | 2 => show 7 * q - 3 < 7 * (q + 1) - 3; omega
  | 3 => exact dayS_up q
  | 4 => exact dayS_mono (by omega)
  | _ + 5 => exact dayS_mono (by omega)
theorem bC_len (i : Nat) : (bC i).length = bN i := by
  match i with
  | 0 => rfl
  | 1 => rfl
  | 2 => rfl
  | 3 => exact monC_len 1 4800
  | 4 => exact monC_len 3 1600
  | _ + 5 => exact monC_len 12 400
theorem bC_at (i : Nat) (r : Nat) (h : r < bN i) : (bC i)[r]? = some [(bB i r, bB i (r + 1) - 1)] := by
  match i, h with
  | 0, h => obtain rfl : r = 0 := by have : r < 1 := h; omega
            rfl
  | 1, h => obtain rfl : r = 0 := by have : r < 1 := h; omega
            rfl
  | 2, h => obtain rfl : r = 0 := by have : r < 1 := h; omega
            rfl
  | 3, h => exact core_m h (congrArg dayS (by simp)) (by show dayS _ - 1 = dayS _ - 1; congr 2; simp)
  | 4, h => exact core_m h (congrArg dayS (by omega)) (by show dayS _ - 1 = dayS _ - 1; congr 2; omega)
  | _ + 5, h => exact core_m h (congrArg dayS (by omega)) (by show dayS _ - 1 = dayS _ - 1; congr 2; omega)
theorem flo_zero (n : Int) (w : World) (h0 : 0 ≤ n) (h1 : n < 4800) :
    Calls Tryd.prog 85 #[.int .i64 n, .int .i64 4800] w fun e w' => e = .returned (.int .i64 0) ∧ w = w' := by
  have e1 : n.tdiv 4800 = 0 := by rw [Int.tdiv_eq_ediv_of_nonneg h0]; omega
  have e2 : n / 4800 = 0 := by omega
  have e3 : n.tmod 4800 = n := by rw [Int.tmod_eq_emod_of_nonneg h0]; omega
  have e4 : n % 4800 = n := by omega
  go_enter Tryd.func85, Tryd.ntmps85
  go_wp2
  go_returns
  exact ⟨rfl, rfl⟩
theorem flo_one (w : World) :
    Calls Tryd.prog 85 #[.int .i64 4800, .int .i64 4800] w fun e w' => e = .returned (.int .i64 1) ∧ w = w' := by
  go_enter Tryd.func85, Tryd.ntmps85
  go_wp2
  go_returns
  exact ⟨rfl, rfl⟩
theorem one_valid {y m : Int} (y1 : -9999 ≤ y) (y2 : y ≤ 9999) (m1 : 1 ≤ m) (m2 : m ≤ 12) : Cal.Valid y m 1 :=
  ⟨y1, y2, by omega, by have := Cal.len_bd y m m1 m2; omega⟩
theorem first_any (m : Int) (w : World) (h0 : 0 ≤ m) (h1 : m ≤ 4800) :
    Calls Tryd.prog 48 #[.int .i64 m] w fun e w' => e = .returned (.int .i64 (dayS m)) ∧ w = w' := by
  by_cases z : m = 4800
  · subst z
    have HF := Lib.hid (flo_one w)
    have HD := Lib.hid (rdays_valid 1970 1 1 w (one_valid (by omega) (by omega) (by omega) (by omega)))
    rw [show Cal.num 1970 1 1 = 0 by decide] at HD
    rw [show dayS 4800 = 146097 from dayS_all]
    go_enter Tryd.func48, Tryd.ntmps48
    go_wp2_with (first | (go_at_call 85; (with_reducible refine HF.out.mono ?_); rintro e w' ⟨rfl, rfl⟩) | (go_at_call 86; (with_reducible refine HD.out.mono ?_); rintro e w' ⟨rfl, rfl⟩))
    go_returns
    exact ⟨rfl, rfl⟩
  · have h2 : m < 4800 := by omega
    have HF := Lib.hid (flo_zero m w h0 h2)
    have HD := Lib.hid (rdays_valid (1970 + m / 12) (m % 12 + 1) 1 w (one_valid (by omega) (by omega) (by omega) (by omega)))
    have bd := dayS_bd h0 h1
    rw [show Cal.num (1970 + m / 12) (m % 12 + 1) 1 = dayS m from rfl] at HD
    clear z
    obtain ⟨r, hr⟩ : ∃ z, dayS m = z := ⟨_, rfl⟩
    rw [hr] at HD bd ⊢
    clear hr
    have b1 := bd.1
    have b2 := bd.2
    have m1 : 0 ≤ m / 12 := by omega
    have m2 : m / 12 ≤ 400 := by omega
    have m3 : 0 ≤ m % 12 := by omega
    have m4 : m % 12 ≤ 11 := by omega
    go_enter Tryd.func48, Tryd.ntmps48
    go_wp2_with (first | (go_at_call 85; (with_reducible refine HF.out.mono ?_); rintro e w' ⟨rfl, rfl⟩) | (go_at_call 86; (with_reducible refine HD.out.mono ?_); rintro e w' ⟨rfl, rfl⟩))
    go_returns
    exact ⟨rfl, rfl⟩
theorem gra_tick (q : Int) (w : World) (h0 : 0 ≤ q) (h1 : q < 1) :
    Calls Tryd.prog 24 #[.string ⟨#[116, 105, 99, 107]⟩, .int .i64 q] w fun e w' => e = .returned (.tuple #[.int .i64 (bB 0 q), .int .i64 (bB 0 (q + 1) - 1), .bool true]) ∧ w = w' := by
  rw [show bB 0 q = q from rfl, show bB 0 (q + 1) - 1 = q by show q + 1 - 1 = q; omega]
  go_enter Tryd.func24, Tryd.ntmps24
  go_wp2
  go_returns
  exact ⟨rfl, rfl⟩
theorem gra_day (q : Int) (w : World) (h0 : 0 ≤ q) (h1 : q < 1) :
    Calls Tryd.prog 24 #[.string ⟨#[100, 97, 121]⟩, .int .i64 q] w fun e w' => e = .returned (.tuple #[.int .i64 (bB 1 q), .int .i64 (bB 1 (q + 1) - 1), .bool true]) ∧ w = w' := by
  have t0 : ((⟨#[100, 97, 121]⟩ : ByteArray) == ⟨#[116, 105, 99, 107]⟩) = false := by decide
  rw [show bB 1 q = q from rfl, show bB 1 (q + 1) - 1 = q by show q + 1 - 1 = q; omega]
  go_enter Tryd.func24, Tryd.ntmps24
  go_wp2
  go_returns
  exact ⟨rfl, rfl⟩
theorem gra_week (q : Int) (w : World) (h0 : 0 ≤ q) (h1 : q < 1) :
    Calls Tryd.prog 24 #[.string ⟨#[119, 101, 101, 107]⟩, .int .i64 q] w fun e w' => e = .returned (.tuple #[.int .i64 (bB 2 q), .int .i64 (bB 2 (q + 1) - 1), .bool true]) ∧ w = w' := by
  have t0 : ((⟨#[119, 101, 101, 107]⟩ : ByteArray) == ⟨#[116, 105, 99, 107]⟩) = false := by decide
  have t1 : ((⟨#[119, 101, 101, 107]⟩ : ByteArray) == ⟨#[100, 97, 121]⟩) = false := by decide
  rw [show bB 2 q = 7 * q - 3 from rfl, show bB 2 (q + 1) - 1 = 7 * q + 3 by show 7 * (q + 1) - 3 - 1 = 7 * q + 3; omega]
  go_enter Tryd.func24, Tryd.ntmps24
  go_wp2
  go_returns
  exact ⟨rfl, rfl⟩
theorem gra_month (q : Int) (w : World) (h0 : 0 ≤ q) (h1 : q < 4800) :
    Calls Tryd.prog 24 #[.string ⟨#[109, 111, 110, 116, 104]⟩, .int .i64 q] w fun e w' => e = .returned (.tuple #[.int .i64 (bB 3 q), .int .i64 (bB 3 (q + 1) - 1), .bool true]) ∧ w = w' := by
  have t0 : ((⟨#[109, 111, 110, 116, 104]⟩ : ByteArray) == ⟨#[116, 105, 99, 107]⟩) = false := by decide
  have t1 : ((⟨#[109, 111, 110, 116, 104]⟩ : ByteArray) == ⟨#[100, 97, 121]⟩) = false := by decide
  have t2 : ((⟨#[109, 111, 110, 116, 104]⟩ : ByteArray) == ⟨#[119, 101, 101, 107]⟩) = false := by decide
  have HA := Lib.hid (first_any q w (by omega) (by omega))
  have HB := Lib.hid (first_any (q + 1) w (by omega) (by omega))
  have ba := dayS_bd (m := q) (by omega) (by omega)
  have bb := dayS_bd (m := (q + 1)) (by omega) (by omega)
  rw [show bB 3 q = dayS q from rfl, show bB 3 (q + 1) - 1 = dayS (q + 1) - 1 from congrArg (fun z => dayS z - 1) (by omega)]
  obtain ⟨A, hA⟩ : ∃ z, dayS q = z := ⟨_, rfl⟩
  obtain ⟨B, hB⟩ : ∃ z, dayS (q + 1) = z := ⟨_, rfl⟩
  rw [hA] at HA ba ⊢
  rw [hB] at HB bb ⊢
  clear hA hB
  have a0 := ba.1
  have a1 := ba.2
  have b0 := bb.1
  have b1 := bb.2
  go_enter Tryd.func24, Tryd.ntmps24
  go_wp2_with (first | (go_at_call 48; (with_reducible refine HA.out.mono ?_); rintro e w' ⟨rfl, rfl⟩) | (go_at_call 48; (with_reducible refine HB.out.mono ?_); rintro e w' ⟨rfl, rfl⟩))
  go_returns
  exact ⟨rfl, rfl⟩
theorem gra_quarter (q : Int) (w : World) (h0 : 0 ≤ q) (h1 : q < 1600) :
    Calls Tryd.prog 24 #[.string ⟨#[113, 117, 97, 114, 116, 101, 114]⟩, .int .i64 q] w fun e w' => e = .returned (.tuple #[.int .i64 (bB 4 q), .int .i64 (bB 4 (q + 1) - 1), .bool true]) ∧ w = w' := by
  have t0 : ((⟨#[113, 117, 97, 114, 116, 101, 114]⟩ : ByteArray) == ⟨#[116, 105, 99, 107]⟩) = false := by decide
  have t1 : ((⟨#[113, 117, 97, 114, 116, 101, 114]⟩ : ByteArray) == ⟨#[100, 97, 121]⟩) = false := by decide
  have t2 : ((⟨#[113, 117, 97, 114, 116, 101, 114]⟩ : ByteArray) == ⟨#[119, 101, 101, 107]⟩) = false := by decide
  have t3 : ((⟨#[113, 117, 97, 114, 116, 101, 114]⟩ : ByteArray) == ⟨#[109, 111, 110, 116, 104]⟩) = false := by decide
  have HA := Lib.hid (first_any (3 * q) w (by omega) (by omega))
  have HB := Lib.hid (first_any (3 * q + 3) w (by omega) (by omega))
  have ba := dayS_bd (m := (3 * q)) (by omega) (by omega)
  have bb := dayS_bd (m := (3 * q + 3)) (by omega) (by omega)
  rw [show bB 4 q = dayS (3 * q) from rfl, show bB 4 (q + 1) - 1 = dayS (3 * q + 3) - 1 from congrArg (fun z => dayS z - 1) (by omega)]
  obtain ⟨A, hA⟩ : ∃ z, dayS (3 * q) = z := ⟨_, rfl⟩
  obtain ⟨B, hB⟩ : ∃ z, dayS (3 * q + 3) = z := ⟨_, rfl⟩
  rw [hA] at HA ba ⊢
  rw [hB] at HB bb ⊢
  clear hA hB
  have a0 := ba.1
  have a1 := ba.2
  have b0 := bb.1
  have b1 := bb.2
  go_enter Tryd.func24, Tryd.ntmps24
  go_wp2_with (first | (go_at_call 48; (with_reducible refine HA.out.mono ?_); rintro e w' ⟨rfl, rfl⟩) | (go_at_call 48; (with_reducible refine HB.out.mono ?_); rintro e w' ⟨rfl, rfl⟩))
  go_returns
  exact ⟨rfl, rfl⟩
theorem gra_year (q : Int) (w : World) (h0 : 0 ≤ q) (h1 : q < 400) :
    Calls Tryd.prog 24 #[.string ⟨#[121, 101, 97, 114]⟩, .int .i64 q] w fun e w' => e = .returned (.tuple #[.int .i64 (bB 5 q), .int .i64 (bB 5 (q + 1) - 1), .bool true]) ∧ w = w' := by
  have t0 : ((⟨#[121, 101, 97, 114]⟩ : ByteArray) == ⟨#[116, 105, 99, 107]⟩) = false := by decide
  have t1 : ((⟨#[121, 101, 97, 114]⟩ : ByteArray) == ⟨#[100, 97, 121]⟩) = false := by decide
  have t2 : ((⟨#[121, 101, 97, 114]⟩ : ByteArray) == ⟨#[119, 101, 101, 107]⟩) = false := by decide
  have t3 : ((⟨#[121, 101, 97, 114]⟩ : ByteArray) == ⟨#[109, 111, 110, 116, 104]⟩) = false := by decide
  have t4 : ((⟨#[121, 101, 97, 114]⟩ : ByteArray) == ⟨#[113, 117, 97, 114, 116, 101, 114]⟩) = false := by decide
  have HA := Lib.hid (first_any (12 * q) w (by omega) (by omega))
  have HB := Lib.hid (first_any (12 * q + 12) w (by omega) (by omega))
  have ba := dayS_bd (m := (12 * q)) (by omega) (by omega)
  have bb := dayS_bd (m := (12 * q + 12)) (by omega) (by omega)
  rw [show bB 5 q = dayS (12 * q) from rfl, show bB 5 (q + 1) - 1 = dayS (12 * q + 12) - 1 from congrArg (fun z => dayS z - 1) (by omega)]
  obtain ⟨A, hA⟩ : ∃ z, dayS (12 * q) = z := ⟨_, rfl⟩
  obtain ⟨B, hB⟩ : ∃ z, dayS (12 * q + 12) = z := ⟨_, rfl⟩
  rw [hA] at HA ba ⊢
  rw [hB] at HB bb ⊢
  clear hA hB
  have a0 := ba.1
  have a1 := ba.2
  have b0 := bb.1
  have b1 := bb.2
  go_enter Tryd.func24, Tryd.ntmps24
  go_wp2_with (first | (go_at_call 48; (with_reducible refine HA.out.mono ?_); rintro e w' ⟨rfl, rfl⟩) | (go_at_call 48; (with_reducible refine HB.out.mono ?_); rintro e w' ⟨rfl, rfl⟩))
  go_returns
  exact ⟨rfl, rfl⟩
end Go.Proofs.YtacpcokmgahjaaaDoor
