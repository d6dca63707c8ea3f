/- SafeTells: the walk. -/
import Derived.Test.YtplbdfdpcgmcjaaFn6
namespace Go.Proofs.Ytplbdfdpcgmcjaa
set_option linter.unusedVariables false
open Go.ChangeShapes Go.WideShapes Go.ChangeAt Go.RowKit

/-- A function tells two numbers, or three, and leaves what was there. -/
abbrev Tell2 (f : Nat) (a b x e : Int) : Prop := Hid (∀ w, Calls Try.prog f #[.int .i64 a, .int .i64 b] w fun e' w' => e' = .returned (.tuple #[.int .i64 x, .int .i64 e]) ∧ Below w.heap.size w w')
abbrev Tell3 (f : Nat) (a b x y e : Int) : Prop := Hid (∀ w, Calls Try.prog f #[.int .i64 a, .int .i64 b] w fun e' w' => e' = .returned (.tuple #[.int .i64 x, .int .i64 y, .int .i64 e]) ∧ Below w.heap.size w w')

theorem bel_on {B : Nat} {W0 W W' : World} (h : Below B W0 W) (hB : B ≤ W0.heap.size) (b : Below W.heap.size W W') : Below B W0 W' := h.trans (b.mono (Nat.le_trans hB h.size))

set_option maxRecDepth 100000 in
set_option maxHeartbeats 8000000 in
theorem tells_walk (a b : Int) (w : World) (x1 e1 x2 e2 x3 e3 q r e4 x5 e5 x6 e6 : Int)
    (A1 : Tell2 9 a b x1 e1) (A2 : Tell2 10 a b x1 e1) (B1 : Tell2 11 a b x2 e2) (B2 : Tell2 12 a b x2 e2) (C1 : Tell2 13 a b x3 e3) (C2 : Tell2 14 a b x3 e3)
    (D1 : Tell3 15 a b q r e4) (D2 : Tell3 16 a b q r e4) (E1 : Tell2 17 a b x5 e5) (E2 : Tell2 18 a b x5 e5) (F1 : Tell2 19 a b x6 e6) (F2 : Tell2 20 a b x6 e6) :
    Calls Try.prog 3 #[.int .i64 a, .int .i64 b] w fun e w' => e = .returned (.bool true) ∧ Below w.heap.size w w' := by
  go_enter Try.func3, Try.ntmps3
  go_wp2_with (first
    | (go_at_call 9; (with_reducible refine (A1.out _).mono ?_); rintro e v1 ⟨rfl, b1⟩; have H1 := Lib.hid b1; clear b1)
    | (go_at_call 10; (with_reducible refine (A2.out _).mono ?_); rintro e v2 ⟨rfl, b1⟩; have H2 := Lib.hid b1; clear b1)
    | (go_at_call 11; (with_reducible refine (B1.out _).mono ?_); rintro e v3 ⟨rfl, b1⟩; have H3 := Lib.hid b1; clear b1)
    | (go_at_call 12; (with_reducible refine (B2.out _).mono ?_); rintro e v4 ⟨rfl, b1⟩; have H4 := Lib.hid b1; clear b1)
    | (go_at_call 13; (with_reducible refine (C1.out _).mono ?_); rintro e v5 ⟨rfl, b1⟩; have H5 := Lib.hid b1; clear b1)
    | (go_at_call 14; (with_reducible refine (C2.out _).mono ?_); rintro e v6 ⟨rfl, b1⟩; have H6 := Lib.hid b1; clear b1)
    | (go_at_call 15; (with_reducible refine (D1.out _).mono ?_); rintro e v7 ⟨rfl, b1⟩; have H7 := Lib.hid b1; clear b1)
    | (go_at_call 16; (with_reducible refine (D2.out _).mono ?_); rintro e v8 ⟨rfl, b1⟩; have H8 := Lib.hid b1; clear b1)
    | (go_at_call 17; (with_reducible refine (E1.out _).mono ?_); rintro e v9 ⟨rfl, b1⟩; have H9 := Lib.hid b1; clear b1)
    | (go_at_call 18; (with_reducible refine (E2.out _).mono ?_); rintro e v10 ⟨rfl, b1⟩; have H10 := Lib.hid b1; clear b1)
    | (go_at_call 19; (with_reducible refine (F1.out _).mono ?_); rintro e v11 ⟨rfl, b1⟩; have H11 := Lib.hid b1; clear b1)
    | (go_at_call 20; (with_reducible refine (F2.out _).mono ?_); rintro e v12 ⟨rfl, b1⟩; have H12 := Lib.hid b1; clear b1)
    | (go_at_call 21; (with_reducible refine (awake_any _).mono ?_); rintro e v13 ⟨rfl, b1⟩; have H13 := Lib.hid b1; clear b1))
  go_returns
  have z := bel_on (bel_on (bel_on (bel_on H1.out (Nat.le_refl _) H2.out) (Nat.le_refl _) H3.out) (Nat.le_refl _) H4.out) (Nat.le_refl _) H5.out
  have z := bel_on (bel_on (bel_on (bel_on z (Nat.le_refl _) H6.out) (Nat.le_refl _) H7.out) (Nat.le_refl _) H8.out) (Nat.le_refl _) H9.out
  have z := bel_on (bel_on (bel_on (bel_on z (Nat.le_refl _) H10.out) (Nat.le_refl _) H11.out) (Nat.le_refl _) H12.out) (Nat.le_refl _) H13.out
  exact ⟨rfl, z⟩
end Go.Proofs.Ytplbdfdpcgmcjaa
