/- Memory of one's own, written: what stays readable. -/
import Derived.Test.YtijpejjkbioekaaC5
namespace Go.Proofs.Ytijpejjkbioekaa
set_option linter.unusedVariables false
set_option linter.unusedSimpArgs false
open Go.ChangeShapes Go.WideShapes Go.ChangeAt Go.RowKit
/-- A slice of spans of the call's own: all cells numbers. -/
def IntRow (W : World) (B : Nat) (u : Value) : Prop := ∃ ao n c, u = .slice ao n c ∧ n ≤ 9223372036854775807 ∧ (0 < n → ∃ g cur, ao = some ⟨g, 0, none⟩ ∧ B ≤ g ∧ W.heap[g]? = some (.cells cur 43 (0, 0)) ∧ ∀ j, j < n * 2 → ∃ z : Int, cur[j]? = some (.int .i64 z))
theorem IntRow.grown {W W' : World} {B : Nat} {u : Value} {row : Option Nat} (h : IntRow W B u) (hg : W.grownBy W' row) (ho : Off W B 43 row) : IntRow W' B u := by
  obtain ⟨ao, n, c, rfl, h1, h2⟩ := h
  refine ⟨ao, n, c, rfl, h1, fun h0 => ?_⟩
  obtain ⟨g, cur, e, h3, h4, h5⟩ := h2 h0
  refine ⟨g, cur, e, h3, ?_, h5⟩
  rw [hg.block g (Array.getElem?_eq_some_iff.1 h4).1 (fun q => by
    rcases ho g q.symm with q | ⟨cur', t, q1, q2⟩
    · omega
    · rw [h4] at q1; cases q1; exact q2 rfl)]
  exact h4
theorem IntRow.set {W : World} {B : Nat} {u : Value} (h : IntRow W B u) (g o : Nat) (z : Int) : IntRow (W.setCell ⟨g, o, none⟩ (.int .i64 z)) B u := by
  obtain ⟨ao, n, c, rfl, h1, h2⟩ := h
  refine ⟨ao, n, c, rfl, h1, fun h0 => ?_⟩
  obtain ⟨g', cur, e, h3, h4, h5⟩ := h2 h0
  by_cases q : g' = g
  · subst q
    refine ⟨g', cur.setIfInBounds o (.int .i64 z), e, h3, set_block h4 o _, fun j hj => ?_⟩
    obtain ⟨y, hy⟩ := h5 j hj
    rw [Array.getElem?_setIfInBounds]
    split
    · have hs := (Array.getElem?_eq_some_iff.1 hy).1
      rename_i e2
      subst e2
      exact ⟨z, by simp [hs]⟩
    · exact ⟨y, hy⟩
  · refine ⟨g', cur, e, h3, ?_, h5⟩
    rw [(grown_cell W ⟨g, o, none⟩ (.int .i64 z)).block g' (Array.getElem?_eq_some_iff.1 h4).1 (fun x => q (Option.some.inj x))]
    exact h4
theorem intRow_of {W : World} {B n : Nat} {v : Value} {l : List Sp} (h : W.ownsRow B 43 2 v n (spCells l)) (hl : l.length = n) : IntRow W B v := by
  rcases h.2 with ⟨rfl, h0⟩ | ⟨g, cap, cur, rfl, h2, h3, h4, h5, h6, h7⟩
  · exact ⟨none, 0, 0, rfl, by decide, fun h => absurd h (Nat.lt_irrefl _)⟩
  · refine ⟨_, n, _, rfl, by unfold maxLen at h5; omega, fun h0 => ⟨g, cur, rfl, h2, h3, fun j hj => ?_⟩⟩
    have e := congrArg (fun q => q[j]?) h7
    simp only [List.getElem?_take] at e
    rw [if_pos hj] at e
    have hi : j / 2 < l.length := by omega
    have q := spCells_at l (j / 2) hi
    rcases Nat.mod_two_eq_zero_or_one j with e1 | e1
    · have e2 : j / 2 * 2 = j := by omega
      rw [e2] at q
      exact ⟨_, by rw [← Array.getElem?_toList, e]; exact q.1⟩
    · have e2 : j / 2 * 2 + 1 = j := by omega
      rw [e2] at q
      exact ⟨_, by rw [← Array.getElem?_toList, e]; exact q.2⟩
structure CoInt (W : World) (B : Nat) (v : Value) (n : Nat) (us : Nat → Value) : Prop where
  row : ∃ vs, W.ownsRow B 28 1 v n vs ∧ ∀ i, i < n → vs[i]? = some (us i)
  ints : ∀ i, i < n → IntRow W B (us i)
structure OdInt (W : World) (B : Nat) (v : Value) (n : Nat) (us : Nat → Value) : Prop where
  row : ∃ vs, W.ownsRow B 45 2 v n vs ∧ ∀ i, i < n → (∃ z : Int, vs[i * 2]? = some (.int .i64 z)) ∧ vs[i * 2 + 1]? = some (us i)
  ints : ∀ i, i < n → IntRow W B (us i)
theorem coInt_of {W : World} {B n : Nat} {v : Value} {ls : List (List Sp)} (h : CoOwn W B v n ls) : ∃ us, CoInt W B v n us := by
  obtain ⟨xs, a, b⟩ := h.row
  refine ⟨fun i => (xs[i]?).getD (.int .i64 0), ⟨xs, a, fun i hi => ?_⟩, fun i hi => ?_⟩
  · have hx : i < xs.length := by have := a.1; omega
    rw [List.getElem?_eq_getElem hx]; rfl
  · obtain ⟨u, c, d⟩ := b i (by rw [h.len]; exact hi)
    rw [c]; exact intRow_of d rfl
theorem odInt_of {W : World} {B n : Nat} {v : Value} {os : List Gr} (h : OdOwn W B v n os) : ∃ us, OdInt W B v n us := by
  obtain ⟨xs, a, b⟩ := h.row
  refine ⟨fun i => (xs[i * 2 + 1]?).getD (.int .i64 0), ⟨xs, a, fun i hi => ?_⟩, fun i hi => ?_⟩
  · obtain ⟨q, ⟨u, c, d⟩, _⟩ := b i (by rw [h.len]; exact hi)
    exact ⟨⟨_, q⟩, by rw [c]; rfl⟩
  · obtain ⟨q, ⟨u, c, d⟩, _⟩ := b i (by rw [h.len]; exact hi)
    rw [c]; exact intRow_of d rfl
/-- The copy, while it is written. -/
structure Cw (w4 W : World) (bc : Nat) (bx : Array Value) (vc vo : Value) (cn on : Nat) (uc uo : Nat → Value) : Prop where
  bw : Below w4.heap.size w4 W
  lo : w4.heap.size ≤ bc
  box : W.heap[bc]? = some (.cells bx 25 (0, 0))
  co : CoInt W w4.heap.size vc cn uc
  od : OdInt W w4.heap.size vo on uo
theorem Cw.keep {w4 W W' : World} {bc : Nat} {bx : Array Value} {vc vo : Value} {cn on : Nat} {uc uo : Nat → Value} (h : Cw w4 W bc bx vc vo cn on uc uo) (k : Below W.heap.size W W') : Cw w4 W' bc bx vc vo cn on uc uo := by
  have hg := grown_of_below k
  have o : ∀ e, Off W w4.heap.size e none := fun e q z => by cases z
  refine ⟨h.bw.trans (k.mono h.bw.size), h.lo, (k.block bc (Array.getElem?_eq_some_iff.1 h.box).1).trans h.box, ⟨?_, fun i hi => (h.co.ints i hi).grown hg (o _)⟩, ⟨?_, fun i hi => (h.od.ints i hi).grown hg (o _)⟩⟩
  · obtain ⟨vs, a, b⟩ := h.co.row; exact ⟨vs, own_off a hg (o _), b⟩
  · obtain ⟨vs, a, b⟩ := h.od.row; exact ⟨vs, own_off a hg (o _), b⟩
/-- A number of a set is written. -/
theorem Cw.inner {w4 W : World} {bc : Nat} {bx : Array Value} {vc vo : Value} {cn on : Nat} {uc uo : Nat → Value} (h : Cw w4 W bc bx vc vo cn on uc uo) {g : Nat} {cur : Array Value} (hg : W.heap[g]? = some (.cells cur 43 (0, 0))) (hb : w4.heap.size ≤ g) (o : Nat) (z : Int) : Cw w4 (W.setCell ⟨g, o, none⟩ (.int .i64 z)) bc bx vc vo cn on uc uo := by
  have hgr := grown_cell W ⟨g, o, none⟩ (.int .i64 z)
  have off : ∀ e : Nat, 43 ≠ e → Off W w4.heap.size e (some g) := fun e he q x => .inr ⟨cur, 43, by cases x; exact hg, he⟩
  refine ⟨h.bw.setCell (p := ⟨g, o, none⟩) hb _, h.lo, (hgr.block bc (Array.getElem?_eq_some_iff.1 h.box).1 (fun e => by
    have e2 : bc = g := Option.some.inj e
    have := h.box
    rw [e2, hg] at this
    cases this)).trans h.box, ⟨?_, fun i hi => (h.co.ints i hi).set g o z⟩, ⟨?_, fun i hi => (h.od.ints i hi).set g o z⟩⟩
  · obtain ⟨vs, a, b⟩ := h.co.row; exact ⟨vs, own_off a hgr (off _ (by decide)), b⟩
  · obtain ⟨vs, a, b⟩ := h.od.row; exact ⟨vs, own_off a hgr (off _ (by decide)), b⟩
/-- An index of an exception is written. -/
theorem Cw.index {w4 W : World} {bc : Nat} {bx : Array Value} {vc : Value} {cn on g c : Nat} {uc uo : Nat → Value} (h : Cw w4 W bc bx vc (.slice (some ⟨g, 0, none⟩) on c) cn on uc uo) {i : Nat} (hi : i < on) (z : Int) : Cw w4 (W.setCell ⟨g, i * 2, none⟩ (.int .i64 z)) bc bx vc (.slice (some ⟨g, 0, none⟩) on c) cn on uc uo := by
  obtain ⟨vs, a, b⟩ := h.od.row
  obtain ⟨cur, hg⟩ := own_typed a (g := g) rfl
  have hb := (a.lt g rfl).1
  have hs := a.stored (i * 2) (.int .i64 z)
  have hl := a.1
  have off : ∀ e : Nat, 45 ≠ e → Off W w4.heap.size e (some g) := fun e he q x => .inr ⟨cur, 45, by cases x; exact hg, he⟩
  refine ⟨h.bw.setCell (p := ⟨g, i * 2, none⟩) hb _, h.lo, (hs.2.block bc (Array.getElem?_eq_some_iff.1 h.box).1 (fun e => by
    have e2 : bc = g := Option.some.inj e
    have := h.box
    rw [e2, hg] at this
    cases this)).trans h.box, ⟨?_, fun i hi => (h.co.ints i hi).set g _ z⟩, ⟨⟨_, hs.1, fun j hj => ⟨?_, ?_⟩⟩, fun i hi => (h.od.ints i hi).set g _ z⟩⟩
  · obtain ⟨vs, a, b⟩ := h.co.row; exact ⟨vs, own_off a hs.2 (off _ (by decide)), b⟩
  · by_cases e : j = i
    · subst e; exact ⟨z, by rw [List.getElem?_set]; simp; omega⟩
    · rw [List.getElem?_set, if_neg (by omega)]; exact (b j hj).1
  · rw [List.getElem?_set, if_neg (by omega)]; exact (b j hj).2
theorem Cw.boxc {w4 W : World} {bc : Nat} {bx : Array Value} {vc vo : Value} {cn on : Nat} {uc uo : Nat → Value} (h : Cw w4 W bc bx vc vo cn on uc uo) (k : Nat) : W.cell? ⟨bc, k, none⟩ = bx[k]? := cell_block h.box k
/-- A number of a row, and that it may be written. -/
theorem IntRow.spot {W : World} {B : Nat} {ao : Option Addr} {n c : Nat} (h : IntRow W B (.slice ao n c)) {i : Nat} (hi : i < n) : ∃ g cur, ao = some ⟨g, 0, none⟩ ∧ W.heap[g]? = some (.cells cur 43 (0, 0)) ∧ B ≤ g ∧ (∃ z : Int, W.cell? ⟨g, i * 2, none⟩ = some (.int .i64 z)) ∧ (∃ z : Int, W.cell? ⟨g, i * 2 + 1, none⟩ = some (.int .i64 z)) ∧ W.frozen? ⟨g, i * 2, none⟩ = false ∧ W.frozen? ⟨g, i * 2 + 1, none⟩ = false := by
  obtain ⟨ao', n', c', e, h1, h2⟩ := h
  cases e
  obtain ⟨g, cur, rfl, h3, h4, h5⟩ := h2 (by omega)
  refine ⟨g, cur, rfl, h4, h3, ?_, ?_, ?_, ?_⟩
  · obtain ⟨z, hz⟩ := h5 (i * 2) (by omega); exact ⟨z, by rw [cell_block h4]; exact hz⟩
  · obtain ⟨z, hz⟩ := h5 (i * 2 + 1) (by omega); exact ⟨z, by rw [cell_block h4]; exact hz⟩
  · unfold World.frozen?; rw [h4]; simp
  · unfold World.frozen?; rw [h4]; simp
theorem IntRow.slice {W : World} {B : Nat} {u : Value} (h : IntRow W B u) : ∃ ao n c, u = .slice ao n c ∧ n ≤ 9223372036854775807 := by
  obtain ⟨ao, n, c, e, h1, _⟩ := h; exact ⟨ao, n, c, e, h1⟩
end Go.Proofs.Ytijpejjkbioekaa
