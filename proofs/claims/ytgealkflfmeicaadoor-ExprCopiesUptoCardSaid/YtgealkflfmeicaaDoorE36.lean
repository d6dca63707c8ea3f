/- Bytes that came in, opened. -/
import Derived.Test.YtgealkflfmeicaaDoorE33
import Derived.Test.YtgealkflfmeicaaDoorE35
namespace Go.Proofs.YtgealkflfmeicaaDoor
set_option linter.unusedVariables false
set_option linter.unusedSimpArgs false
open Go.ChangeShapes Go.WideShapes Go.ChangeAt Go.RowKit
theorem cells5b : Tryd.prog.cellsOf 5 = 1 := by kernel_rfl
section
variable {H : Type} {enc : TypeId × Value → H} {w : World} {base : Nat} {spare : Nat → Bool} {held : Bool}
theorem open_bytes {fuel : Nat} {cs : List Value} {x : DataW H × List MemPlace} (h : DataW.trod enc Tryd.prog w base spare held fuel 38 cs = some x) : ∃ ao n c l, cs = [.slice ao n c] ∧ BAt w ao n c l := by
  rcases Go.Deep.open_slice1 Tryd.underlying38 cells5b h with ⟨rfl, _⟩ | ⟨a, len, cap, m, n, V, Dd, Pl, rfl, hb, hl, hm, hmm, rfl, hi⟩
  · exact ⟨none, 0, 0, [], rfl, ⟨rfl, Nat.le_refl _, Nat.zero_le _, fun h => absurd h (Nat.lt_irrefl _)⟩⟩
  · have hcap : cap ≤ 9223372036854775807 := by unfold maxLen at hm; omega
    have lm : 0 < len → len ≤ m := fun h0 => by rw [hmm]; split <;> omega
    have each : ∀ t : Nat, ∃ U : Int, t < len → w.cell? (a.add t) = some (.int .u8 U) ∧ 0 ≤ U ∧ U ≤ 255 := by
      intro t
      by_cases ht : t < len
      · obtain ⟨e1, e2⟩ := hi t (by have := lm (by omega); omega)
        obtain ⟨u, e3, _, hw⟩ := DataW.trod_int Tryd.underlying5 e2
        have e4 : V t = .int .u8 u := by simpa using e3
        rw [e4] at e1
        exact ⟨u, fun _ => ⟨e1, bounds_u8 hw⟩⟩
      · exact ⟨0, fun h => absurd h ht⟩
    obtain ⟨U, hU⟩ := Classical.axiomOfChoice each
    refine ⟨some a, len, cap, (List.range len).map U, rfl, ⟨by simp, hl, hcap, fun h0 => ?_⟩⟩
    obtain ⟨bl, ol, rfl⟩ := spot_none (hU 0 h0).1 rfl
    refine ⟨bl, ol, rfl, fun i hi => ?_⟩
    have hi' : i < len := by simpa using hi
    have e : ((List.range len).map U)[i] = U i := by simp
    rw [e]
    have := hU i hi'
    rw [add_off] at this
    exact this
end
end Go.Proofs.YtgealkflfmeicaaDoor
