/- F2 in one. -/
import Derived.Test.YtllhcpkpbipjlaaDoorKak
namespace Go.Proofs.YtllhcpkpbipjlaaDoor
set_option linter.unusedVariables false
set_option linter.unusedSimpArgs false
open Go.ChangeShapes Go.WideShapes Go.ChangeAt Go.RowKit

section
variable {H : Type} {enc : TypeId × Value → H} {w : World} {base : Nat} {spare : Nat → Bool} {held : Bool}
set_option maxRecDepth 8000 in
theorem open_tok {fuel : Nat} {cs : List Value} {x : DataW H × List MemPlace} (h : DataW.trod enc Tryd.prog w base spare held fuel 47 cs = some x) : ∃ T : Lx.Tk, cs = [.int .u8 T.1, .string ⟨T.2.1.toArray⟩, .int .i64 T.2.2] ∧ Lx.TkB [T] := by
  obtain ⟨xs, n, h1, h2, hc, hx, hf⟩ := DataW.trod_struct Tryd.underlying47 h
  rw [cells47] at hc
  match xs, hx with
  | [x0, x1, x2], _ =>
    have f0 : DataW.trod enc Tryd.prog w base spare held n 5 ((cs.drop 0).take (Tryd.prog.cellsOf 5)) = some x0 := hf 0 _ rfl
    have f1 : DataW.trod enc Tryd.prog w base spare held n 9 ((cs.drop 1).take (Tryd.prog.cellsOf 9)) = some x1 := hf 1 _ rfl
    have f2 : DataW.trod enc Tryd.prog w base spare held n 2 ((cs.drop 2).take (Tryd.prog.cellsOf 2)) = some x2 := hf 2 _ rfl
    rw [cells5] at f0
    rw [cells9] at f1
    rw [cells2] at f2
    obtain ⟨o, e0, _, w0⟩ := DataW.trod_int Tryd.underlying5 f0
    obtain ⟨s, e1, _, w1⟩ := DataW.trod_string Tryd.underlying9 f1
    obtain ⟨u, e2, _, w2⟩ := DataW.trod_int Tryd.underlying2 f2
    match cs, hc with
    | [c0, c1, c2], _ =>
      simp at e0 e1 e2
      subst e0 e1 e2
      refine ⟨(o, s.data.toList, u), rfl, fun t ht => ?_⟩
      obtain rfl : t = (o, s.data.toList, u) := by simpa using ht
      exact ⟨bounds_u8 w0, by rw [← Lib.size_eq]; exact w1, bounds_i64 w2⟩
end
end Go.Proofs.YtllhcpkpbipjlaaDoor
