/- SpansMake: at a slice that came in. -/
import Derived.Test.YthjpnnggghfepaaQ4
namespace Go.Proofs.Ythjpnnggghfepaa
set_option linter.unusedVariables false
set_option linter.unusedSimpArgs false
open Go.ChangeShapes Go.WideShapes Go.ChangeAt Go.RowKit
theorem spmake_all (v0 : Value) (w : World) (h0 : ∃ ao n c l, v0 = .slice ao n c ∧ SpAt w ao n c l) :
    Calls Try.prog 3 #[v0] w fun e w' => e = .returned (.bool true) ∧ Below w.heap.size w w' := by
  obtain ⟨a0, n0, c0, l0, rfl, s0⟩ := h0
  exact make_law a0 n0 c0 l0 w s0
end Go.Proofs.Ythjpnnggghfepaa
