/- Contracts: slices.Clone of a row of bounds. -/
import Derived.Test.YtnhbinghinlhgaaB
import Derived.Laws.AppendOwn
import Derived.OwnWalk
import Derived.WalkSpells
import Derived.Maps.AppendAt
namespace Go.Proofs.Ytnhbinghinlhgaa
set_option linter.unusedVariables false
set_option linter.unusedSimpArgs false
open Go.ChangeShapes Go.WideShapes Go.ChangeAt Go.RowKit

theorem info26 : (Try.prog.info? 26).map (fun i => (i.zero, i.size, i.bytes)) = some (some (.agg #[.int .i8 0, .int .i64 0]), 2, 16) := by kernel_rfl

/-- The cells of a row. -/
def rowCells (r : Nat → Bd) : Nat → List Value
  | 0 => []
  | n + 1 => rowCells r n ++ [.int .i8 (infOf (r n)), .int .i64 (numOf (r n))]
theorem rowCells_length (r : Nat → Bd) (n : Nat) : (rowCells r n).length = n * 2 := by
  induction n with
  | zero => rfl
  | succ n ih => simp [rowCells, ih]; omega
theorem rowCells_inf (r : Nat → Bd) : ∀ (n j : Nat), j < n → (rowCells r n)[j * 2]? = some (.int .i8 (infOf (r j)))
  | n + 1, j, h => by
    have l := rowCells_length r n
    by_cases q : j = n
    · subst q
      rw [rowCells, List.getElem?_append_right (by omega), l]
      simp
    · rw [rowCells, List.getElem?_append_left (by omega)]
      exact rowCells_inf r n j (by omega)
theorem rowCells_num (r : Nat → Bd) : ∀ (n j : Nat), j < n → (rowCells r n)[j * 2 + 1]? = some (.int .i64 (numOf (r j)))
  | n + 1, j, h => by
    have l := rowCells_length r n
    by_cases q : j = n
    · subst q
      rw [rowCells, List.getElem?_append_right (by omega), l]
      simp
    · rw [rowCells, List.getElem?_append_left (by omega)]
      exact rowCells_num r n j (by omega)
theorem rowCells_one (r : Nat → Bd) (n : Nat) : ∀ u ∈ rowCells r n, u.oneCell' = true := by
  induction n with
  | zero => intro u h; cases h
  | succ n ih =>
    intro u h
    rw [rowCells, List.mem_append] at h
    rcases h with h | h
    · exact ih u h
    · simp at h
      rcases h with rfl | rfl <;> rfl
theorem add_off (b p k : Nat) : (⟨b, p, none⟩ : Addr).add k = ⟨b, p + k, none⟩ := by unfold Addr.add; split <;> simp_all
theorem row_cells {w : World} {b p n : Nat} {r : Nat → Bd} (h : RowAt w b p n r) : ∀ j u, (rowCells r n)[j]? = some u → w.cell? ((⟨b, p, none⟩ : Addr).add j) = some u := by
  intro j u hu
  rw [add_off]
  have hj : j < n * 2 := by
    have := (List.getElem?_eq_some_iff.1 hu).1
    rwa [rowCells_length] at this
  rcases (show j = (j / 2) * 2 ∨ j = (j / 2) * 2 + 1 by omega) with q | q
  · have e := h.inf (j / 2) (by omega)
    rw [← q] at e
    rw [q, rowCells_inf r n (j / 2) (by omega)] at hu
    rw [e]; exact hu
  · have e := h.num (j / 2) (by omega)
    rw [Nat.add_assoc, ← q] at e
    rw [q, rowCells_num r n (j / 2) (by omega)] at hu
    rw [e]; exact hu
/-- A row of the call's own reads so. -/
theorem row_own {w : World} {B g n cap : Nat} {r : Nat → Bd} (h : w.ownsRow B 26 2 (.slice (some ⟨g, 0, none⟩) n cap) n (rowCells r n)) : RowAt w g 0 n r ∧ B ≤ g ∧ g < w.heap.size ∧ n ≤ cap ∧ cap ≤ 9223372036854775807 ∧ ∀ k, w.frozen? ⟨g, k, none⟩ = false := by
  have hc := h
  have hl := h.lt g rfl
  refine ⟨⟨fun j hj => ?_, fun j hj => ?_⟩, hl.1, hl.2, ?_⟩
  · have := hc.cells (g := g) rfl (j * 2) _ (rowCells_inf r n j hj)
    rw [add_off] at this
    exact this
  · have := hc.cells (g := g) rfl (j * 2 + 1) _ (rowCells_num r n j hj)
    rw [add_off] at this
    exact this
  · rcases h.2 with ⟨h1, _⟩ | ⟨g', cap', cur, h1, h2, h3, h4, h5, h6⟩
    · cases h1
    · cases h1
      refine ⟨h4, by unfold maxLen at h5; omega, fun k => ?_⟩
      unfold World.frozen?
      simp [h3]
theorem ownsRow_slice {w : World} {B n : Nat} {v : Value} {xs : List Value} (h : w.ownsRow B 26 2 v n xs) (hn : 0 < n) : ∃ g cap, v = .slice (some ⟨g, 0, none⟩) n cap := by
  rcases h.2 with ⟨_, h2⟩ | ⟨g, cap, cur, h1, _⟩
  · omega
  · exact ⟨g, cap, h1⟩

set_option maxHeartbeats 1000000 in
theorem clone_row (b p n c : Nat) (r : Nat → Bd) (hn : n ≤ 24) (h0 : 0 < n) (hc : n ≤ c) (hc' : c ≤ 9223372036854775807) (w : World) (hw : RowAt w b p n r) :
    Calls Try.prog 36 #[.slice (some ⟨b, p, none⟩) n c] w fun e w' => ∃ g cap, e = .returned (.slice (some ⟨g, 0, none⟩) n cap) ∧ Hid (RowAt w' g 0 n r ∧ w.heap.size ≤ g ∧ g < w'.heap.size ∧ n ≤ cap ∧ cap ≤ 9223372036854775807 ∧ ∀ k, w'.frozen? ⟨g, k, none⟩ = false) ∧ Hid (Below w.heap.size w w') := by
  have HW := Lib.hid hw
  clear hw
  obtain ⟨i0, hi, hz0, hz1, hz2⟩ := info_parts info26
  have HI := Lib.hid hi
  have HZ0 := Lib.hid hz0
  have HZ1 := Lib.hid hz1
  have HZ2 := Lib.hid hz2
  clear hi hz0 hz1 hz2
  have hnil := fun (w : World) (a : Option Addr) (n c : Nat) => Lib.run_eql_slice_nil (P := Try.prog) w 30 26 a n c 0 0 Try.underlying30
  go_enter Try.func36, Try.ntmps36
  go_wp2_with (first
    | (at_builtin; refine wpList_append_own _ rfl _ _ 30 rfl w.heap.size 26 i0 (.agg #[.int .i8 0, .int .i64 0]) 2 16 Try.underlying30 HI.out HZ0.out HZ1.out HZ2.out rfl (by decide) (.slice (some ⟨w.heap.size, 0, none⟩) 0 0) 0 [] (by rfl) (World.ownsRow_made w #[] 0 (Nat.le_refl _) (by unfold maxLen; omega) rfl) ⟨b, p, none⟩ n c (rowCells r n) (by rfl) (rowCells_length r n) (row_cells (HW.out.keep ((Below.refl _ w).alloc (Nat.le_refl _) _))) (rowCells_one r n) (by unfold maxLen; omega) (by omega) (by simp) ?_; intro v' w1 hown hgro hnil))
  go_returns
  simp only [Nat.zero_add, List.nil_append] at hown
  obtain ⟨g, cap, rfl⟩ := ownsRow_slice hown h0
  have ro := row_own hown
  exact ⟨g, cap, rfl, Lib.hid ⟨ro.1, ro.2.1, ro.2.2.1, ro.2.2.2.1, ro.2.2.2.2.1, ro.2.2.2.2.2⟩, Lib.hid (((Below.refl _ w).alloc (Nat.le_refl _) _).grown hgro (by simp) (fun k hk => by cases hk; exact Nat.le_refl _))⟩
end Go.Proofs.Ytnhbinghinlhgaa
