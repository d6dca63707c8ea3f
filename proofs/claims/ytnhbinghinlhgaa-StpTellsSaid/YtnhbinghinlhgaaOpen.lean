/- An argument that is a slice of bounds that are said, opened to its cells. -/
import Derived.Test.YtnhbinghinlhgaaK
import Derived.Deep.Slices
import Derived.ChangeArms
import Derived.OpenShut
namespace Go.Proofs.Ytnhbinghinlhgaa
set_option linter.unusedVariables false
set_option linter.unusedSimpArgs false
open Go.ChangeShapes Go.WideShapes Go.ChangeAt Go.RowKit

theorem cells28 : Try.prog.cellsOf 28 = 4 := by kernel_rfl
theorem cells26 : Try.prog.cellsOf 26 = 2 := by kernel_rfl
theorem cells24 : Try.prog.cellsOf 24 = 1 := by kernel_rfl
theorem cells3 : Try.prog.cellsOf 3 = 1 := by kernel_rfl

section
variable {H : Type} {enc : TypeId × Value → H} {w : World} {base : Nat} {spare : Nat → Bool} {held : Bool}
theorem open_bound {fuel : Nat} {cs : List Value} {x : DataW H × List MemPlace} (h : DataW.trod enc Try.prog w base spare held fuel 26 cs = some x) : ∃ u v : Int, cs = [.int .i8 u, .int .i64 v] ∧ I64' v := by
  obtain ⟨xs, n, rfl, rfl, hc, hx, hf⟩ := DataW.trod_struct Try.underlying26 h
  rw [cells26] at hc
  match xs, hx with
  | [x0, x1], _ =>
    have f0 : DataW.trod enc Try.prog w base spare held n 24 ((cs.drop 0).take (Try.prog.cellsOf 24)) = some x0 := hf 0 _ rfl
    have f1 : DataW.trod enc Try.prog w base spare held n 3 ((cs.drop 1).take (Try.prog.cellsOf 3)) = some x1 := hf 1 _ rfl
    rw [cells24] at f0
    rw [cells3] at f1
    obtain ⟨u, e0, _, _⟩ := DataW.trod_int Try.underlying24 f0
    obtain ⟨v, e1, _, w1⟩ := DataW.trod_int Try.underlying3 f1
    match cs, hc with
    | [c0, c1], _ =>
      simp at e0 e1
      subst e0
      subst e1
      exact ⟨u, v, rfl, bounds_i64 w1⟩
theorem open_said {fuel : Nat} {cs : List Value} {x : DataW H × List MemPlace} (h : DataW.trod enc Try.prog w base spare held fuel 28 cs = some x) : ∃ i j u v : Int, cs = [.int .i64 i, .int .i64 j, .int .i8 u, .int .i64 v] ∧ I64' i ∧ I64' j ∧ I64' v := by
  obtain ⟨xs, n, rfl, rfl, hc, hx, hf⟩ := DataW.trod_struct Try.underlying28 h
  rw [cells28] at hc
  match xs, hx with
  | [x0, x1, x2], _ =>
    have f0 : DataW.trod enc Try.prog w base spare held n 3 ((cs.drop 0).take (Try.prog.cellsOf 3)) = some x0 := hf 0 _ rfl
    have f1 : DataW.trod enc Try.prog w base spare held n 3 ((cs.drop 1).take (Try.prog.cellsOf 3)) = some x1 := hf 1 _ rfl
    have f2 : DataW.trod enc Try.prog w base spare held n 26 ((cs.drop 2).take (Try.prog.cellsOf 26)) = some x2 := hf 2 _ rfl
    rw [cells3] at f0 f1
    rw [cells26] at f2
    obtain ⟨i, e0, _, w0⟩ := DataW.trod_int Try.underlying3 f0
    obtain ⟨j, e1, _, w1⟩ := DataW.trod_int Try.underlying3 f1
    obtain ⟨u, v, e2, w2⟩ := open_bound f2
    match cs, hc with
    | [c0, c1, c2, c3], _ =>
      simp at e0 e1 e2
      obtain ⟨e2, e3⟩ := e2
      subst e0
      subst e1
      subst e2
      subst e3
      exact ⟨i, j, u, v, rfl, bounds_i64 w0, bounds_i64 w1, w2⟩
theorem open_raw {fuel : Nat} {cs : List Value} {x : DataW H × List MemPlace} (h : DataW.trod enc Try.prog w base spare held fuel 45 cs = some x) : ∃ v, cs = [v] ∧ RawIn w v := by
  rcases Go.Deep.open_slice Try.underlying45 h with ⟨rfl, _⟩ | ⟨a, len, cap, m, n, D, Pl, rfl, hb, hl, hm, hmm, _, hi⟩
  · exact ⟨_, rfl, .inl rfl⟩
  · refine ⟨_, rfl, ?_⟩
    have hcap : cap ≤ 9223372036854775807 := by unfold maxLen at hm; omega
    by_cases h0 : len = 0
    · subst h0
      exact .inr (.inl ⟨a, cap, rfl, hcap⟩)
    · have lm : len ≤ m := by rw [hmm]; split <;> omega
      have each : ∀ t : Nat, ∃ I J X Y : Int, t < len → (w.cell? (a.add (t * 4)) = some (.int .i64 I) ∧ w.cell? (a.add (t * 4 + 1)) = some (.int .i64 J) ∧ w.cell? (a.add (t * 4 + 2)) = some (.int .i8 X) ∧ w.cell? (a.add (t * 4 + 3)) = some (.int .i64 Y)) ∧ I64' I ∧ I64' J ∧ I64' Y := by
        intro t
        by_cases ht : t < len
        · obtain ⟨cs', hc, ht'⟩ := hi t (by omega)
          rw [cells28] at hc
          obtain ⟨_, _, hat⟩ := World.cells?_some hc
          obtain ⟨i, j, u, v, rfl, q0, q1, q3⟩ := open_said ht'
          refine ⟨i, j, u, v, fun _ => ⟨⟨?_, ?_, ?_, ?_⟩, q0, q1, q3⟩⟩
          · have := hat 0 (by decide); rw [Go.Deep.add_add] at this; exact this
          · have := hat 1 (by decide); rw [Go.Deep.add_add] at this; exact this
          · have := hat 2 (by decide); rw [Go.Deep.add_add] at this; exact this
          · have := hat 3 (by decide); rw [Go.Deep.add_add] at this; exact this
        · exact ⟨0, 0, 0, 0, fun h => absurd h ht⟩
      obtain ⟨I, hI⟩ := Classical.axiomOfChoice each
      obtain ⟨J, hJ⟩ := Classical.axiomOfChoice hI
      obtain ⟨X, hX⟩ := Classical.axiomOfChoice hJ
      obtain ⟨Y, hY⟩ := Classical.axiomOfChoice hX
      obtain ⟨bl, ol, sp⟩ := a
      have hs : sp = none := by
        have := World.cell?_spot (hY 0 (by omega)).1.1
        simpa [Addr.add] using this
      subst hs
      simp only [add_off] at hY
      refine .inr (.inr ⟨bl, ol, len, cap, I, J, X, Y, rfl, hl, hcap, ⟨fun t ht => (hY t ht).1.1, fun t ht => (hY t ht).1.2.1, fun t ht => (hY t ht).1.2.2.1, fun t ht => (hY t ht).1.2.2.2, fun t ht => (hY t ht).2.1, fun t ht => (hY t ht).2.2.1, fun t ht => (hY t ht).2.2.2⟩⟩)
end
end Go.Proofs.Ytnhbinghinlhgaa
