/- Contracts: made. -/
import Derived.Test.YthjpnnggghfepaaU6
import Derived.Shelf.SlSortCmp.NoneTotal
namespace Go.Proofs.Ythjpnnggghfepaa
set_option linter.unusedVariables false
set_option linter.unusedSimpArgs false
open Go.ChangeShapes Go.WideShapes Go.ChangeAt Go.RowKit
theorem sort_none (w : World) : Calls Try.prog 38 #[.slice none 0 0, .func (.func 39) #[] #[]] w fun e w' => e = .returned (.tuple #[]) ∧ w' = w :=
  AnyF.slices_SortFunc_none Try.sortSp none 0 (.func (.func 39) #[] #[]) w
theorem make_all (ao : Option Addr) (n c : Nat) (l : List Sp) (hn : n ≤ 1000000) (w : World) (hl : SpAt w ao n c l) :
    Calls Try.prog 11 #[.slice ao n c] w fun e w' => ∃ (v : Value) (k : Int), e = .returned (.tuple #[v, .int .i64 k]) ∧ Below w.heap.size w w' ∧ Made w.heap.size w' l v k := make_any sort_none ao n c l hn w hl
theorem SpAt.take {w : World} {ao : Option Addr} {n c : Nat} {l : List Sp} (h : SpAt w ao n c l) (m : Nat) (hm : m ≤ n) : SpAt w ao m c (l.take m) := by
  have hl := h.len
  refine ⟨by rw [List.length_take]; omega, Nat.le_trans hm h.le, h.top, fun e => ⟨by have := (h.bare e).1; omega, (h.bare e).2⟩, fun h0 => ?_⟩
  obtain ⟨b, p, e, hc⟩ := h.here (by omega)
  refine ⟨b, p, e, fun i hi => ?_⟩
  rw [List.length_take] at hi
  rw [List.getElem_take]
  exact hc i (by omega)
/-- What made hands back. -/
theorem made_own {B : Nat} {w' : World} {l : List Sp} {v : Value} {k : Int} (h : Made B w' l v k) (hl : l.length ≤ 40) : ∃ ao n c r, v = .slice ao n c ∧ Good r ∧ n ≤ 40 ∧ SpAt w' ao n c r := by
  rcases h with ⟨_, _, rfl⟩ | ⟨_, _, _, rfl⟩ | ⟨_, _, _, r, h1, _, h3, h4⟩
  · exact ⟨none, 0, 0, [], rfl, trivial, by omega, SpAt.nil _⟩
  · exact ⟨none, 0, 0, [], rfl, trivial, by omega, SpAt.nil _⟩
  · obtain ⟨ao, c, e, hs⟩ := own_sp rfl h4
    exact ⟨ao, _, c, r, e, h1, by omega, hs⟩
theorem made_any (ao : Option Addr) (n c : Nat) (l : List Sp) (w : World) (hl : SpAt w ao n c l) :
    Calls Try.prog 33 #[.slice ao n c] w fun e w' => ∃ ao' n' c' r, e = .returned (.slice ao' n' c') ∧ Good r ∧ n' ≤ 40 ∧ SpAt w' ao' n' c' r ∧ Below w.heap.size w w' := by
  have hlc := hl.le
  have hct := hl.top
  have hmx : n ≤ 9223372036854775807 := by omega
  by_cases h : n ≤ 40
  · have MK := Lib.hid (make_all ao n c l (by omega) w hl)
    have LN := Lib.hid hl.len
    have t1 : min (n : Int) 40 = (n : Int) := by omega
    have t2 : ¬ (40 : Int) < (n : Int) := by omega
    have h0 : (0 : Int) ≤ (n : Int) := by omega
    have h2 : (n : Int) ≤ (c : Int) := by omega
    cases ao with
    | none =>
      obtain ⟨rfl, rfl⟩ := hl.bare rfl
      have t3 : min (0 : Int) 40 = 0 := by omega
      clear hl
      go_enter Try.func33, Try.ntmps33
      go_wp2_with (go_at_call 11; with_reducible refine MK.out.mono ?_; rintro e w1 ⟨v, k, rfl, hb, hm⟩)
      go_returns
      obtain ⟨ao', n', c', r, e, g1, g2, g3⟩ := made_own hm (by rw [LN.out]; omega)
      exact ⟨ao', n', c', r, (by subst e; rfl), g1, g2, g3, hb⟩
    | some a =>
      clear hl
      go_enter Try.func33, Try.ntmps33
      go_wp2_with (go_at_call 11; with_reducible refine MK.out.mono ?_; rintro e w1 ⟨v, k, rfl, hb, hm⟩)
      go_returns
      obtain ⟨ao', n', c', r, e, g1, g2, g3⟩ := made_own hm (by rw [LN.out]; omega)
      exact ⟨ao', n', c', r, (by subst e; rfl), g1, g2, g3, hb⟩
  · have MK := Lib.hid (make_all ao 40 c (l.take 40) (by omega) w (hl.take 40 (by omega)))
    have LN := Lib.hid (hl.take 40 (by omega)).len
    have t1 : min (n : Int) 40 = 40 := by omega
    have t2 : (40 : Int) < (n : Int) := by omega
    have h2 : (40 : Int) ≤ (c : Int) := by omega
    obtain ⟨b, p, rfl, _⟩ := hl.here (by omega)
    clear hl
    go_enter Try.func33, Try.ntmps33
    go_wp2_with (go_at_call 11; with_reducible refine MK.out.mono ?_; rintro e w1 ⟨v, k, rfl, hb, hm⟩)
    go_returns
    obtain ⟨ao', n', c', r, e, g1, g2, g3⟩ := made_own hm (by rw [LN.out]; omega)
    exact ⟨ao', n', c', r, (by subst e; rfl), g1, g2, g3, hb⟩
end Go.Proofs.Ythjpnnggghfepaa
