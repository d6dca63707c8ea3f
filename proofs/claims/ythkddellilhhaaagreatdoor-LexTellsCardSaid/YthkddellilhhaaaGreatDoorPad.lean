/- padded: a number in so many digits. -/
import Derived.Test.YthkddellilhhaaaGreatDoorShelf
namespace Go.Proofs.YthkddellilhhaaaGreatDoor
set_option linter.unusedVariables false
open Go.ChangeShapes Go.WideShapes Go.ChangeAt Go.RowKit
theorem repeat_zero (c : Nat) (w : World) (hc : c ≤ 4) :
    Calls Tryz.prog 56 #[.string ⟨#[48]⟩, .int .i64 c] w fun e w' => e = .returned (.string ⟨(Lib.repeatL [48] c).toArray⟩) ∧ Below w.heap.size w w' :=
  Tryz.strings_Repeat ⟨#[48]⟩ c w (by omega) (by rw [show (ByteArray.mk #[48]).size = 1 from rfl]; omega)
theorem repeat0 (w : World) : Calls Tryz.prog 56 #[.string ⟨#[48]⟩, .int .i64 0] w fun e w' => e = .returned (.string ⟨#[]⟩) ∧ Below w.heap.size w w' := repeat_zero 0 w (by omega)
theorem repeat1 (w : World) : Calls Tryz.prog 56 #[.string ⟨#[48]⟩, .int .i64 (max 0 1)] w fun e w' => e = .returned (.string ⟨#[48]⟩) ∧ Below w.heap.size w w' := repeat_zero 1 w (by omega)
theorem repeat2 (w : World) : Calls Tryz.prog 56 #[.string ⟨#[48]⟩, .int .i64 (max 0 2)] w fun e w' => e = .returned (.string ⟨#[48, 48]⟩) ∧ Below w.heap.size w w' := repeat_zero 2 w (by omega)
theorem repeat3 (w : World) : Calls Tryz.prog 56 #[.string ⟨#[48]⟩, .int .i64 (max 0 3)] w fun e w' => e = .returned (.string ⟨#[48, 48, 48]⟩) ∧ Below w.heap.size w w' := repeat_zero 3 w (by omega)

theorem padded_2_1 (n : Int) (a : UInt8) (w : World) (I : Hid (Calls Tryz.prog 55 #[.int .i64 n] w fun e w' => e = .returned (.string ⟨#[a]⟩) ∧ Below w.heap.size w w')) :
    Calls Tryz.prog 37 #[.int .i64 n, .int .i64 2] w fun e w' => e = .returned (.string ⟨#[48, a]⟩) ∧ Below w.heap.size w w' := by
  have R := Lib.hid (fun w => repeat1 w)
  go_enter Tryz.func37, Tryz.ntmps37
  go_wp2_with (first
    | (go_at_call 55; (with_reducible refine I.out.mono ?_); rintro e w1 ⟨rfl, b1⟩)
    | (go_at_call 56; (with_reducible refine (R.out _).mono ?_); rintro e w2 ⟨rfl, b2⟩))
  go_returns
  exact ⟨rfl, b1.trans (b2.mono b1.size)⟩

theorem padded_2_2 (n : Int) (a b : UInt8) (w : World) (I : Hid (Calls Tryz.prog 55 #[.int .i64 n] w fun e w' => e = .returned (.string ⟨#[a, b]⟩) ∧ Below w.heap.size w w')) :
    Calls Tryz.prog 37 #[.int .i64 n, .int .i64 2] w fun e w' => e = .returned (.string ⟨#[a, b]⟩) ∧ Below w.heap.size w w' := by
  have R := Lib.hid (fun w => repeat0 w)
  go_enter Tryz.func37, Tryz.ntmps37
  go_wp2_with (first
    | (go_at_call 55; (with_reducible refine I.out.mono ?_); rintro e w1 ⟨rfl, b1⟩)
    | (go_at_call 56; (with_reducible refine (R.out _).mono ?_); rintro e w2 ⟨rfl, b2⟩))
  go_returns
  exact ⟨rfl, b1.trans (b2.mono b1.size)⟩

theorem padded_4_1 (n : Int) (a : UInt8) (w : World) (I : Hid (Calls Tryz.prog 55 #[.int .i64 n] w fun e w' => e = .returned (.string ⟨#[a]⟩) ∧ Below w.heap.size w w')) :
    Calls Tryz.prog 37 #[.int .i64 n, .int .i64 4] w fun e w' => e = .returned (.string ⟨#[48, 48, 48, a]⟩) ∧ Below w.heap.size w w' := by
  have R := Lib.hid (fun w => repeat3 w)
  go_enter Tryz.func37, Tryz.ntmps37
  go_wp2_with (first
    | (go_at_call 55; (with_reducible refine I.out.mono ?_); rintro e w1 ⟨rfl, b1⟩)
    | (go_at_call 56; (with_reducible refine (R.out _).mono ?_); rintro e w2 ⟨rfl, b2⟩))
  go_returns
  exact ⟨rfl, b1.trans (b2.mono b1.size)⟩

theorem padded_4_2 (n : Int) (a b : UInt8) (w : World) (I : Hid (Calls Tryz.prog 55 #[.int .i64 n] w fun e w' => e = .returned (.string ⟨#[a, b]⟩) ∧ Below w.heap.size w w')) :
    Calls Tryz.prog 37 #[.int .i64 n, .int .i64 4] w fun e w' => e = .returned (.string ⟨#[48, 48, a, b]⟩) ∧ Below w.heap.size w w' := by
  have R := Lib.hid (fun w => repeat2 w)
  go_enter Tryz.func37, Tryz.ntmps37
  go_wp2_with (first
    | (go_at_call 55; (with_reducible refine I.out.mono ?_); rintro e w1 ⟨rfl, b1⟩)
    | (go_at_call 56; (with_reducible refine (R.out _).mono ?_); rintro e w2 ⟨rfl, b2⟩))
  go_returns
  exact ⟨rfl, b1.trans (b2.mono b1.size)⟩

theorem padded_4_3 (n : Int) (a b c : UInt8) (w : World) (I : Hid (Calls Tryz.prog 55 #[.int .i64 n] w fun e w' => e = .returned (.string ⟨#[a, b, c]⟩) ∧ Below w.heap.size w w')) :
    Calls Tryz.prog 37 #[.int .i64 n, .int .i64 4] w fun e w' => e = .returned (.string ⟨#[48, a, b, c]⟩) ∧ Below w.heap.size w w' := by
  have R := Lib.hid (fun w => repeat1 w)
  go_enter Tryz.func37, Tryz.ntmps37
  go_wp2_with (first
    | (go_at_call 55; (with_reducible refine I.out.mono ?_); rintro e w1 ⟨rfl, b1⟩)
    | (go_at_call 56; (with_reducible refine (R.out _).mono ?_); rintro e w2 ⟨rfl, b2⟩))
  go_returns
  exact ⟨rfl, b1.trans (b2.mono b1.size)⟩

theorem padded_4_4 (n : Int) (a b c d : UInt8) (w : World) (I : Hid (Calls Tryz.prog 55 #[.int .i64 n] w fun e w' => e = .returned (.string ⟨#[a, b, c, d]⟩) ∧ Below w.heap.size w w')) :
    Calls Tryz.prog 37 #[.int .i64 n, .int .i64 4] w fun e w' => e = .returned (.string ⟨#[a, b, c, d]⟩) ∧ Below w.heap.size w w' := by
  have R := Lib.hid (fun w => repeat0 w)
  go_enter Tryz.func37, Tryz.ntmps37
  go_wp2_with (first
    | (go_at_call 55; (with_reducible refine I.out.mono ?_); rintro e w1 ⟨rfl, b1⟩)
    | (go_at_call 56; (with_reducible refine (R.out _).mono ?_); rintro e w2 ⟨rfl, b2⟩))
  go_returns
  exact ⟨rfl, b1.trans (b2.mono b1.size)⟩

end Go.Proofs.YthkddellilhhaaaGreatDoor
