/- FormOrder: the walk. -/
import Derived.Test.YtkhnoikdfelheaaW2
namespace Go.Proofs.Ytkhnoikdfelheaa
set_option linter.unusedVariables false
set_option linter.unusedSimpArgs false
open Go.ChangeShapes Go.WideShapes Go.ChangeAt Go.RowKit
theorem get_any2 (F : Fv) (i : Int) (w : World) (hF : F.At w) (ok : F.Ok) (G : List Sp) (hG : gr F i = G) :
    Calls Try.prog 16 #[F.v, .int .i64 i] w fun e w' => ∃ (ao : Option Addr) (n c : Nat) (L : List Sp) (k : Int), e = .returned (.tuple #[.slice ao n c, .int .i64 k]) ∧ Hid (Below w.heap.size w w') ∧ Hid (SpAt w' ao n c L) ∧ ((k = 0 ∧ Hid (Told i G ∧ L = G)) ∨ (k = 20 ∧ n = 0 ∧ Hid (¬ Told i G))) := by
  subst hG
  refine (get_any F i w hF ok).mono ?_
  rintro e w' ⟨v, k, rfl, q, hv⟩
  rcases hv.out with ⟨h1, rfl, h3⟩ | ⟨h1, rfl, rfl⟩
  · obtain ⟨ao, c, rfl, z⟩ := own_sp rfl h3
    exact ⟨ao, _, c, _, 0, rfl, Lib.hid q, Lib.hid z, .inl ⟨rfl, Lib.hid ⟨h1, rfl⟩⟩⟩
  · exact ⟨none, 0, 0, [], 20, rfl, Lib.hid q, Lib.hid (SpAt.nil _), .inr ⟨rfl, rfl, Lib.hid h1⟩⟩
end Go.Proofs.Ytkhnoikdfelheaa
