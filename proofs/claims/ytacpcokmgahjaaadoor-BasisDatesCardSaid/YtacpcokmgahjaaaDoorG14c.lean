/- Contract: the walk's step. -/
import Derived.Test.YtacpcokmgahjaaaDoorG13c
import Derived.Test.YtacpcokmgahjaaaDoorG13u
import Derived.Test.YtacpcokmgahjaaaDoorG13d
namespace Go.Proofs.YtacpcokmgahjaaaDoor
set_option linter.unusedVariables false
set_option linter.unusedSimpArgs false
open Go.ChangeShapes Go.WideShapes Go.ChangeAt Go.RowKit
theorem WkOut.after {F : Fv} {w0 w w1 w2 : World} {B b : Nat} {a st : Int} {e : Ending} (h : WkOut F w0 w1 B b a st e w2) (hg : w.grownBy w1 (some b)) : WkOut F w0 w B b a st e w2 := by
  obtain ⟨a2, ps2, v2, L2, h1, h2, h3, h4, h5, h6⟩ := h
  exact ⟨a2, ps2, v2, L2, h1, h2, h3, h4, h5, hg.trans h6⟩
theorem grown_put0 {w w' : World} {b : Nat} (h : w.grownBy w' (some b)) (k : Nat) (u : Value) : w.grownBy (w'.setCell ⟨b, k, none⟩ u) (some b) := ⟨h.os, h.tape, h.output, by simpa [World.setCell] using h.size, fun q hq hne => (Below.heap_setCell _ _ _ _ (by intro e; exact hne (by rw [e]))).trans (h.block q hq hne)⟩
theorem grown_keep {w w1 w2 : World} {b : Nat} (h : w.grownBy w1 (some b)) (k : Below w1.heap.size w1 w2) : w.grownBy w2 (some b) := h.andThen (grown_of_below k) (fun j e => by cases e)
end Go.Proofs.YtacpcokmgahjaaaDoor
