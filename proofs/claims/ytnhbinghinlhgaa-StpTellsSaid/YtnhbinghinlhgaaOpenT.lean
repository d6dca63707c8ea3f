/- An argument that is a slice of numbers, opened to its cells. -/
import Derived.Test.YtnhbinghinlhgaaOpen
import Derived.Test.YtnhbinghinlhgaaSame
namespace Go.Proofs.Ytnhbinghinlhgaa
set_option linter.unusedVariables false
set_option linter.unusedSimpArgs false
open Go.ChangeShapes Go.WideShapes Go.ChangeAt Go.RowKit
section
variable {H : Type} {enc : TypeId × Value → H} {w : World} {base : Nat} {spare : Nat → Bool} {held : Bool}
def TickIn (w : World) (v : Value) : Prop := ∃ ao L cap t, v = .slice ao L cap ∧ TickIs w ao L cap t
theorem open_ticks {fuel : Nat} {cs : List Value} {x : DataW H × List MemPlace} (h : DataW.trod enc Try.prog w base spare held fuel 23 cs = some x) : ∃ v, cs = [v] ∧ TickIn w v := by
  rcases Go.Deep.open_slice Try.underlying23 h with ⟨rfl, _⟩ | ⟨a, len, cap, m, n, D, Pl, rfl, hb, hl, hm, hmm, _, hi⟩
  · exact ⟨_, rfl, none, 0, 0, fun _ => 0, rfl, ⟨Nat.le_refl _, by omega, fun _ => ⟨rfl, rfl⟩, fun h => absurd h (Nat.lt_irrefl _)⟩⟩
  · refine ⟨_, rfl, some a, len, cap, ?_⟩
    have hcap : cap ≤ 9223372036854775807 := by unfold maxLen at hm; omega
    have lm : len ≤ m := by rw [hmm]; split <;> omega
    have each : ∀ t : Nat, ∃ I : Int, t < len → w.cell? (a.add (t * 1)) = some (.int .i64 I) ∧ I64 I := by
      intro t
      by_cases ht : t < len
      · obtain ⟨cs', hc, ht'⟩ := hi t (by omega)
        rw [cells3] at hc
        obtain ⟨_, _, hat⟩ := World.cells?_some hc
        obtain ⟨i, e, _, wi⟩ := DataW.trod_int Try.underlying3 ht'
        subst e
        refine ⟨i, fun _ => ⟨?_, bounds_i64 wi⟩⟩
        have := hat 0 (by decide); rw [Go.Deep.add_add] at this; exact this
      · exact ⟨0, fun h => absurd h ht⟩
    obtain ⟨I, hI⟩ := Classical.axiomOfChoice each
    refine ⟨I, rfl, hl, hcap, (by intro e; cases e), fun h0 => ?_⟩
    obtain ⟨bl, ol, sp⟩ := a
    have hs : sp = none := by
      have := World.cell?_spot (hI 0 h0).1
      simpa [Addr.add] using this
    subst hs
    refine ⟨bl, ol, rfl, fun j hj => ?_, fun j hj => (hI j hj).2⟩
    have := (hI j hj).1
    rw [add_off, Nat.mul_one] at this
    exact this
end
end Go.Proofs.Ytnhbinghinlhgaa
