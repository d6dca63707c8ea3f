/- SpansTicks: at slices that came in. -/
import Derived.Test.YthjpnnggghfepaaQ8
namespace Go.Proofs.Ythjpnnggghfepaa
set_option linter.unusedVariables false
set_option linter.unusedSimpArgs false
open Go.ChangeShapes Go.WideShapes Go.ChangeAt Go.RowKit
theorem ticks_all (v0 v1 : Value) (t : Int) (w : World) (h0 : ∃ ao n c l, v0 = .slice ao n c ∧ SpAt w ao n c l) (h1 : ∃ ao n c l, v1 = .slice ao n c ∧ SpAt w ao n c l) (ht1 : -9223372036854775808 ≤ t) (ht2 : t ≤ 9223372036854775807) :
    Calls Try.prog 5 #[v0, v1, .int .i64 t] w fun e w' => e = .returned (.bool true) ∧ Below w.heap.size w w' := by
  obtain ⟨a0, n0, c0, l0, rfl, s0⟩ := h0
  obtain ⟨a1, n1, c1, l1, rfl, s1⟩ := h1
  exact ticks_law a0 a1 n0 n1 c0 c1 l0 l1 t w s0 s1
end Go.Proofs.Ythjpnnggghfepaa
