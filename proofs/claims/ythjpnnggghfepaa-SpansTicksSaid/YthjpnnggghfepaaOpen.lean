/- An argument that is a slice of spans, opened to its cells. -/
import Derived.Test.YthjpnnggghfepaaS2
import Derived.Deep.Slices
import Derived.ChangeArms
import Derived.OpenShut
namespace Go.Proofs.Ythjpnnggghfepaa
set_option linter.unusedVariables false
set_option linter.unusedSimpArgs false
open Go.ChangeShapes Go.WideShapes Go.ChangeAt Go.RowKit
/-- A slice of spans that came in. -/
def RawSp (w : World) (v : Value) : Prop := ∃ ao n c l, v = .slice ao n c ∧ SpAt w ao n c l
theorem cells35 : Try.prog.cellsOf 35 = 2 := by kernel_rfl
theorem cells3 : Try.prog.cellsOf 3 = 1 := by kernel_rfl
theorem add_offO (b p k : Nat) : (⟨b, p, none⟩ : Addr).add k = ⟨b, p + k, none⟩ := by unfold Addr.add; split <;> simp_all
section
variable {H : Type} {enc : TypeId × Value → H} {w : World} {base : Nat} {spare : Nat → Bool} {held : Bool}
theorem open_span {fuel : Nat} {cs : List Value} {x : DataW H × List MemPlace} (h : DataW.trod enc Try.prog w base spare held fuel 35 cs = some x) : ∃ u v : Int, cs = [.int .i64 u, .int .i64 v] := by
  obtain ⟨xs, n, rfl, rfl, hc, hx, hf⟩ := DataW.trod_struct Try.underlying35 h
  rw [cells35] at hc
  match xs, hx with
  | [x0, x1], _ =>
    have f0 : DataW.trod enc Try.prog w base spare held n 3 ((cs.drop 0).take (Try.prog.cellsOf 3)) = some x0 := hf 0 _ rfl
    have f1 : DataW.trod enc Try.prog w base spare held n 3 ((cs.drop 1).take (Try.prog.cellsOf 3)) = some x1 := hf 1 _ rfl
    rw [cells3] at f0 f1
    obtain ⟨u, e0, _, _⟩ := DataW.trod_int Try.underlying3 f0
    obtain ⟨v, e1, _, _⟩ := DataW.trod_int Try.underlying3 f1
    match cs, hc with
    | [c0, c1], _ =>
      simp at e0 e1
      subst e0
      subst e1
      exact ⟨u, v, rfl⟩
theorem open_spans {fuel : Nat} {cs : List Value} {x : DataW H × List MemPlace} (h : DataW.trod enc Try.prog w base spare held fuel 22 cs = some x) : ∃ v, cs = [v] ∧ RawSp w v := by
  rcases Go.Deep.open_slice Try.underlying22 h with ⟨rfl, _⟩ | ⟨a, len, cap, m, n, D, Pl, rfl, hb, hl, hm, hmm, _, hi⟩
  · exact ⟨_, rfl, none, 0, 0, [], rfl, SpAt.nil w⟩
  · refine ⟨_, rfl, ?_⟩
    have hcap : cap ≤ 9223372036854775807 := by unfold maxLen at hm; omega
    have lm : 0 < len → len ≤ m := fun h0 => by rw [hmm]; split <;> omega
    have each : ∀ t : Nat, ∃ U V : Int, t < len → w.cell? (a.add (t * 2)) = some (.int .i64 U) ∧ w.cell? (a.add (t * 2 + 1)) = some (.int .i64 V) := by
      intro t
      by_cases ht : t < len
      · obtain ⟨cs', hc, ht'⟩ := hi t (by have := lm (by omega); omega)
        rw [cells35] at hc
        obtain ⟨_, _, hat⟩ := World.cells?_some hc
        obtain ⟨u, v, rfl⟩ := open_span ht'
        refine ⟨u, v, fun _ => ⟨?_, ?_⟩⟩
        · have := hat 0 (by decide); rw [Go.Deep.add_add] at this; exact this
        · have := hat 1 (by decide); rw [Go.Deep.add_add] at this; exact this
      · exact ⟨0, 0, fun h => absurd h ht⟩
    obtain ⟨U, hU⟩ := Classical.axiomOfChoice each
    obtain ⟨V, hV⟩ := Classical.axiomOfChoice hU
    refine ⟨some a, len, cap, (List.range len).map (fun t => (U t, V t)), rfl, by simp, hl, hcap, (fun e => by cases e), fun h0 => ?_⟩
    obtain ⟨bl, ol, sp⟩ := a
    have hs : sp = none := by
      have := World.cell?_spot (hV 0 h0).1
      simpa [Addr.add] using this
    subst hs
    simp only [add_offO] at hV
    refine ⟨bl, ol, rfl, fun i hi => ?_⟩
    have hi' : i < len := by simpa using hi
    have e : ((List.range len).map (fun t => (U t, V t)))[i] = (U i, V i) := by simp
    rw [e]
    exact ⟨(hV i hi').1, by have := (hV i hi').2; rwa [← Nat.add_assoc] at this⟩
end
end Go.Proofs.Ythjpnnggghfepaa
