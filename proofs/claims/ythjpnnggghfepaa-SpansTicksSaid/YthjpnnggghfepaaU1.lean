/- Contracts: Union, Cut, Less. -/
import Derived.Test.YthjpnnggghfepaaK45
import Derived.Test.YthjpnnggghfepaaK46
namespace Go.Proofs.Ythjpnnggghfepaa
set_option linter.unusedVariables false
set_option linter.unusedSimpArgs false
open Go.ChangeShapes Go.WideShapes Go.ChangeAt Go.RowKit Go.Shelf
attribute [local go_sem] Oper.semAt_some
theorem union_any (ao bo : Option Addr) (m1 c1 m2 c2 : Nat) (a b : List Sp) (ga : Good a) (gb : Good b) (h1 : m1 ≤ 1000000) (h2 : m2 ≤ 1000000) (w : World) (ha : SpAt w ao m1 c1 a) (hb : SpAt w bo m2 c2 b) :
    Calls Try.prog 18 #[.slice ao m1 c1, .slice bo m2 c2] w fun e w' => ∃ v r, e = .returned v ∧ Good r ∧ (∀ t, mem r t ↔ mem a t ∨ mem b t) ∧ r.length ≤ 2 * m1 + 2 * m2 ∧ w'.ownsRow w.heap.size 35 2 v r.length (spCells r) ∧ Below w.heap.size w w' := by
  have K := keep_union ao bo m1 c1 m2 c2 a b ga gb h1 h2 w ha hb
  go_enter Try.func18, Try.ntmps18
  go_wp2_with (go_at_call 43; with_reducible refine K.mono ?_; rintro e w1 ⟨v, r, rfl, g1, g2, g3, g4, g5⟩)
  go_returns
  refine ⟨v, r, rfl, g1, fun t => ?_, g3, g4, g5⟩
  rw [g2, cnt_mem ga, cnt_mem gb]; simp [Funion]
theorem cut_any (ao bo : Option Addr) (m1 c1 m2 c2 : Nat) (a b : List Sp) (ga : Good a) (gb : Good b) (h1 : m1 ≤ 1000000) (h2 : m2 ≤ 1000000) (w : World) (ha : SpAt w ao m1 c1 a) (hb : SpAt w bo m2 c2 b) :
    Calls Try.prog 19 #[.slice ao m1 c1, .slice bo m2 c2] w fun e w' => ∃ v r, e = .returned v ∧ Good r ∧ (∀ t, mem r t ↔ mem a t ∧ mem b t) ∧ r.length ≤ 2 * m1 + 2 * m2 ∧ w'.ownsRow w.heap.size 35 2 v r.length (spCells r) ∧ Below w.heap.size w w' := by
  have K := keep_cut ao bo m1 c1 m2 c2 a b ga gb h1 h2 w ha hb
  go_enter Try.func19, Try.ntmps19
  go_wp2_with (go_at_call 43; with_reducible refine K.mono ?_; rintro e w1 ⟨v, r, rfl, g1, g2, g3, g4, g5⟩)
  go_returns
  refine ⟨v, r, rfl, g1, fun t => ?_, g3, g4, g5⟩
  rw [g2, cnt_mem ga, cnt_mem gb]; simp [Fcut]
theorem less_any (ao bo : Option Addr) (m1 c1 m2 c2 : Nat) (a b : List Sp) (ga : Good a) (gb : Good b) (h1 : m1 ≤ 1000000) (h2 : m2 ≤ 1000000) (w : World) (ha : SpAt w ao m1 c1 a) (hb : SpAt w bo m2 c2 b) :
    Calls Try.prog 20 #[.slice ao m1 c1, .slice bo m2 c2] w fun e w' => ∃ v r, e = .returned v ∧ Good r ∧ (∀ t, mem r t ↔ mem a t ∧ ¬ mem b t) ∧ r.length ≤ 2 * m1 + 2 * m2 ∧ w'.ownsRow w.heap.size 35 2 v r.length (spCells r) ∧ Below w.heap.size w w' := by
  have K := keep_less ao bo m1 c1 m2 c2 a b ga gb h1 h2 w ha hb
  go_enter Try.func20, Try.ntmps20
  go_wp2_with (go_at_call 43; with_reducible refine K.mono ?_; rintro e w1 ⟨v, r, rfl, g1, g2, g3, g4, g5⟩)
  go_returns
  refine ⟨v, r, rfl, g1, fun t => ?_, g3, g4, g5⟩
  rw [g2, cnt_mem ga, cnt_mem gb]; simp [Fless]
end Go.Proofs.Ythjpnnggghfepaa
