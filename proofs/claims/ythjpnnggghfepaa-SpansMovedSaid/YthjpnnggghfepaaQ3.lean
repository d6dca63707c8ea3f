/- SpansMoved, SpansLaws: at slices that came in. -/
import Derived.Test.YthjpnnggghfepaaQ1
import Derived.Test.YthjpnnggghfepaaQ2
namespace Go.Proofs.Ythjpnnggghfepaa
set_option linter.unusedVariables false
set_option linter.unusedSimpArgs false
open Go.ChangeShapes Go.WideShapes Go.ChangeAt Go.RowKit
theorem moved_all (v0 v1 : Value) (d : Int) (w : World) (h0 : ∃ ao n c l, v0 = .slice ao n c ∧ SpAt w ao n c l) (h1 : ∃ ao n c l, v1 = .slice ao n c ∧ SpAt w ao n c l) (hd1 : -9223372036854775808 ≤ d) (hd2 : d ≤ 9223372036854775807) :
    Calls Try.prog 7 #[v0, v1, .int .i64 d] w fun e w' => e = .returned (.bool true) ∧ Below w.heap.size w w' := by
  obtain ⟨a0, n0, c0, l0, rfl, s0⟩ := h0
  obtain ⟨a1, n1, c1, l1, rfl, s1⟩ := h1
  exact moved_law a0 a1 n0 n1 c0 c1 l0 l1 d hd1 hd2 w s0 s1
theorem laws_all (v0 v1 v2 : Value) (w : World) (h0 : ∃ ao n c l, v0 = .slice ao n c ∧ SpAt w ao n c l) (h1 : ∃ ao n c l, v1 = .slice ao n c ∧ SpAt w ao n c l) (h2 : ∃ ao n c l, v2 = .slice ao n c ∧ SpAt w ao n c l) :
    Calls Try.prog 6 #[v0, v1, v2] w fun e w' => e = .returned (.bool true) ∧ Below w.heap.size w w' := by
  obtain ⟨a0, n0, c0, l0, rfl, s0⟩ := h0
  obtain ⟨a1, n1, c1, l1, rfl, s1⟩ := h1
  obtain ⟨a2, n2, c2, l2, rfl, s2⟩ := h2
  exact laws_law a0 a1 a2 n0 n1 n2 c0 c1 c2 l0 l1 l2 w s0 s1 s2
end Go.Proofs.Ythjpnnggghfepaa
