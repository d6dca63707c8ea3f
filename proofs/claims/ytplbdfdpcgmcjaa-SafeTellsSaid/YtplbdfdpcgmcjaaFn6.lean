/- The chapter's examples (awake). -/
import Derived.Test.YtplbdfdpcgmcjaaFn5
namespace Go.Proofs.Ytplbdfdpcgmcjaa
set_option linter.unusedVariables false
open Go.ChangeShapes Go.WideShapes Go.ChangeAt Go.RowKit

theorem bcell {W w1 : World} (hb : Below W.heap.size W w1) : (∀ b o, b < W.heap.size → w1.cell? ⟨b, o, none⟩ = W.cell? ⟨b, o, none⟩) ∧ (∀ b o, b < W.heap.size → w1.frozen? ⟨b, o, none⟩ = W.frozen? ⟨b, o, none⟩) :=
  ⟨fun b o h => hb.cell (p := ⟨b, o, none⟩) h, fun b o h => hb.frozen (p := ⟨b, o, none⟩) h⟩

theorem below_drewN' {B : Nat} {a w : World} (h : Below B a w) (n : Nat) : Below B a (w.drewN n) := ⟨h.os, h.tape, h.output, h.size, h.block⟩

theorem fl1 (w : World) : Calls Try.prog 15 #[.int .i64 (-7), .int .i64 2] w fun e w' => e = .returned (.tuple #[.int .i64 (-4), .int .i64 1, .int .i64 0]) ∧ ∃ n, w' = w.drewN n :=
  floor_ok (-7) 2 w (by omega) (by omega) (by omega) (by omega) (by omega) (by omega)
theorem fl2 (w : World) : Calls Try.prog 15 #[.int .i64 7, .int .i64 (-2)] w fun e w' => e = .returned (.tuple #[.int .i64 (-4), .int .i64 (-1), .int .i64 0]) ∧ ∃ n, w' = w.drewN n :=
  floor_ok 7 (-2) w (by omega) (by omega) (by omega) (by omega) (by omega) (by omega)
theorem gc1 (w : World) : Calls Try.prog 17 #[.int .i64 12, .int .i64 (-18)] w fun e w' => e = .returned (.tuple #[.int .i64 6, .int .i64 0]) ∧ ∃ n, w' = w.drewN n :=
  gcd_ok 12 (-18) w (by omega) (by omega) (by omega) (by omega) (by decide)
theorem gc2 (w : World) : Calls Try.prog 17 #[.int .i64 (-9223372036854775808), .int .i64 0] w fun e w' => e = .returned (.tuple #[.int .i64 0, .int .i64 10]) ∧ ∃ n, w' = w.drewN n :=
  gcd_over (-9223372036854775808) 0 w (by omega) (by omega) (by omega) (by omega) (by decide) (by decide)
theorem lc1 (w : World) : Calls Try.prog 19 #[.int .i64 4, .int .i64 6] w fun e w' => e = .returned (.tuple #[.int .i64 12, .int .i64 0]) ∧ ∃ n, w' = w.drewN n :=
  lcm_ok 4 6 w (by omega) (by omega) (by omega) (by omega) (by omega) (by omega) (by decide)
theorem lc2 (w : World) : Calls Try.prog 19 #[.int .i64 0, .int .i64 5] w fun e w' => e = .returned (.tuple #[.int .i64 0, .int .i64 0]) ∧ w = w' :=
  lcm_zero 0 5 w (.inl rfl)

set_option maxRecDepth 100000 in
set_option maxHeartbeats 2000000 in
theorem awake_any (w : World) :
    Calls Try.prog 21 #[] w fun e w' => e = .returned (.bool true) ∧ Below w.heap.size w w' := by
  go_enter Try.func21, Try.ntmps21
  go_wp2_with (first
    | (go_at_call 9; (with_reducible refine (add_over _ _ _ (by omega) (by omega) (by omega) (by omega) (by omega)).mono ?_); rintro e w' ⟨rfl, rfl⟩)
    | (go_at_call 15; (with_reducible refine (fl1 _).mono ?_); rintro e w' ⟨rfl, n1, rfl⟩)
    | (go_at_call 15; (with_reducible refine (fl2 _).mono ?_); rintro e w' ⟨rfl, n2, rfl⟩)
    | (go_at_call 15; (with_reducible refine (floor_over _).mono ?_); rintro e w' ⟨rfl, rfl⟩)
    | (go_at_call 17; (with_reducible refine (gc1 _).mono ?_); rintro e w' ⟨rfl, n3, rfl⟩)
    | (go_at_call 17; (with_reducible refine (gc2 _).mono ?_); rintro e w' ⟨rfl, n4, rfl⟩)
    | (go_at_call 19; (with_reducible refine (lc1 _).mono ?_); rintro e w' ⟨rfl, n5, rfl⟩)
    | (go_at_call 19; (with_reducible refine (lc2 _).mono ?_); rintro e w' ⟨rfl, rfl⟩))
  refine (sum_pm _).mono ?_
  rintro e w1 ⟨rfl, hb1⟩
  have H1 := Lib.hid hb1
  clear hb1
  go_wp2_with fail
  refine (sum_zp _ _).mono ?_
  rintro e w2 ⟨rfl, hb2⟩
  have H2 := Lib.hid hb2
  clear hb2
  go_wp2
  go_returns
  have b1 := (below_drewN' (Below.refl w.heap.size w) (n1 + n2 + n3 + n4 + n5)).trans H1.out
  have s1 : w.heap.size ≤ w1.heap.size := b1.size
  have b2 := b1.trans (((Below.refl w.heap.size w1).alloc s1 _).trans (H2.out.mono (by simp; omega)))
  exact ⟨rfl, b2.alloc b2.size _⟩
end Go.Proofs.Ytplbdfdpcgmcjaa
