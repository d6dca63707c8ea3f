/- Contracts of the document's own answer for layer 1: Mul. -/
import Derived.Test.YtplbdfdpcgmcjaaRefG
namespace Go.Proofs.Ytplbdfdpcgmcjaa
set_option linter.unusedVariables false
set_option linter.unusedSimpArgs false
open Go.ChangeShapes Go.WideShapes Go.ChangeAt Go.RowKit
open Long (dig)

theorem rmul_go (a b : Int) (w : World) (ha1 : -9223372036854775808 ≤ a) (ha2 : a ≤ 9223372036854775807) (hb1 : -9223372036854775808 ≤ b) (hb2 : b ≤ 9223372036854775807) :
    Calls Try.prog 14 #[.int .i64 a, .int .i64 b] w fun e w' => e = numE (!(decide (a < 0) == decide (b < 0))) (a.natAbs * b.natAbs) ∧ Below w.heap.size w w' := by
  have A := Lib.hid (fun w => of_any a w ha1 ha2)
  have B := Lib.hid (fun w => of_any b w hb1 hb2)
  have P := Lib.hid (fun w => product_any (decide (a < 0)) (decide (b < 0)) _ rfl a.natAbs b.natAbs w (by omega) (by omega))
  have le : a.natAbs * b.natAbs ≤ 9223372036854775808 * 9223372036854775808 := Nat.mul_le_mul (by omega) (by omega)
  obtain ⟨x, y, hxy⟩ : ∃ x y, numE (!(decide (a < 0) == decide (b < 0))) (a.natAbs * b.natAbs) = .returned (.tuple #[.int .i64 x, .int .i64 y]) := by
    unfold numE
    split
    · exact ⟨_, _, rfl⟩
    · split
      · exact ⟨_, _, rfl⟩
      · exact ⟨_, _, rfl⟩
  have N := fun w => number_any (!(decide (a < 0) == decide (b < 0))) (a.natAbs * b.natAbs) w (by omega)
  rw [hxy] at N
  rw [hxy]
  have N := Lib.hid N
  generalize a.natAbs * b.natAbs = k at *
  clear le
  go_enter Try.func14, Try.ntmps14
  go_wp2_with (first
    | (go_at_call 32; (with_reducible refine (A.out _).mono ?_); rintro e w1 ⟨rfl, hb1⟩; have H1 := Lib.hid hb1; clear hb1)
    | (go_at_call 32; (with_reducible refine (B.out _).mono ?_); rintro e w2 ⟨rfl, hb2⟩; have H2 := Lib.hid hb2; clear hb2)
    | (go_at_call 36; (with_reducible refine (P.out _).mono ?_); rintro e w3 ⟨rfl, hb3⟩; have H3 := Lib.hid hb3; clear hb3)
    | (go_at_call 30; (with_reducible refine (N.out _).mono ?_); rintro e w4 ⟨rfl, hb4⟩; have H4 := Lib.hid hb4; clear hb4))
  go_returns
  exact ⟨rfl, below_on (below_on (below_on H1.out (Nat.le_refl _) H2.out) (Nat.le_refl _) H3.out) (Nat.le_refl _) H4.out⟩
end Go.Proofs.Ytplbdfdpcgmcjaa
