/- Contracts: set. -/
import Derived.Test.YthjpnnggghfepaaR8
import Derived.Test.YthjpnnggghfepaaR9
namespace Go.Proofs.Ythjpnnggghfepaa
set_option linter.unusedVariables false
set_option linter.unusedSimpArgs false
open Go.ChangeShapes Go.WideShapes Go.ChangeAt Go.RowKit
theorem refMake_all (ao : Option Addr) (n c : Nat) (l : List Sp) (hn : n ≤ 5000) (w : World) (hl : SpAt w ao n c l) :
    Calls Try.prog 12 #[.slice ao n c] w fun e w' => ∃ (v : Value) (k : Int), e = .returned (.tuple #[v, .int .i64 k]) ∧ Below w.heap.size w w' ∧ MadeR w.heap.size w' l v k := refMake_any ao n c l hn w hl
/-- What set hands back. -/
theorem set_own {B : Nat} {w' : World} {l : List Sp} {v : Value} {k : Int} (h : MadeR B w' l v k) (hl : l.length ≤ 30) : ∃ ao n c r, v = .slice ao n c ∧ Good r ∧ n ≤ 60 ∧ SpAt w' ao n c r := by
  rcases h with ⟨_, _, rfl⟩ | ⟨_, _, _, rfl⟩ | ⟨_, _, _, r, h1, _, h3, h4⟩
  · exact ⟨none, 0, 0, [], rfl, trivial, by omega, SpAt.nil _⟩
  · exact ⟨none, 0, 0, [], rfl, trivial, by omega, SpAt.nil _⟩
  · obtain ⟨ao, c, e, hs⟩ := own_sp rfl h4
    exact ⟨ao, _, c, r, e, h1, by omega, hs⟩
theorem set_any (ao : Option Addr) (n c : Nat) (l : List Sp) (w : World) (hl : SpAt w ao n c l) :
    Calls Try.prog 16 #[.slice ao n c] w fun e w' => ∃ ao' n' c' r, e = .returned (.slice ao' n' c') ∧ Good r ∧ n' ≤ 60 ∧ SpAt w' ao' n' c' r ∧ Below w.heap.size w w' := by
  have hlc := hl.le
  have hct := hl.top
  have hmx : n ≤ 9223372036854775807 := by omega
  by_cases h : n ≤ 30
  · have MK := Lib.hid (refMake_all ao n c l (by omega) w hl)
    have LN := Lib.hid hl.len
    have t1 : min (n : Int) 30 = (n : Int) := by omega
    have t2 : ¬ (30 : Int) < (n : Int) := by omega
    have h0 : (0 : Int) ≤ (n : Int) := by omega
    have h2 : (n : Int) ≤ (c : Int) := by omega
    cases ao with
    | none =>
      obtain ⟨rfl, rfl⟩ := hl.bare rfl
      have t3 : min (0 : Int) 30 = 0 := by omega
      clear hl
      go_enter Try.func16, Try.ntmps16
      go_wp2_with (go_at_call 12; with_reducible refine MK.out.mono ?_; rintro e w1 ⟨v, k, rfl, hb, hm⟩)
      go_returns
      obtain ⟨ao', n', c', r, e, g1, g2, g3⟩ := set_own hm (by rw [LN.out]; omega)
      exact ⟨ao', n', c', r, (by subst e; rfl), g1, g2, g3, hb⟩
    | some a =>
      clear hl
      go_enter Try.func16, Try.ntmps16
      go_wp2_with (go_at_call 12; with_reducible refine MK.out.mono ?_; rintro e w1 ⟨v, k, rfl, hb, hm⟩)
      go_returns
      obtain ⟨ao', n', c', r, e, g1, g2, g3⟩ := set_own hm (by rw [LN.out]; omega)
      exact ⟨ao', n', c', r, (by subst e; rfl), g1, g2, g3, hb⟩
  · have MK := Lib.hid (refMake_all ao 30 c (l.take 30) (by omega) w (hl.cutAt 30 (by omega)))
    have LN := Lib.hid (hl.cutAt 30 (by omega)).len
    have t1 : min (n : Int) 30 = 30 := by omega
    have t2 : (30 : Int) < (n : Int) := by omega
    have h2 : (30 : Int) ≤ (c : Int) := by omega
    obtain ⟨b, p, rfl, _⟩ := hl.here (by omega)
    clear hl
    go_enter Try.func16, Try.ntmps16
    go_wp2_with (go_at_call 12; with_reducible refine MK.out.mono ?_; rintro e w1 ⟨v, k, rfl, hb, hm⟩)
    go_returns
    obtain ⟨ao', n', c', r, e, g1, g2, g3⟩ := set_own hm (by rw [LN.out]; omega)
    exact ⟨ao', n', c', r, (by subst e; rfl), g1, g2, g3, hb⟩
end Go.Proofs.Ythjpnnggghfepaa
