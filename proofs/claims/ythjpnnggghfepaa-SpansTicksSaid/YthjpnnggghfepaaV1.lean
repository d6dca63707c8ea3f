/- SpansAhead: the plain part, and what is kept in the walk. -/
import Derived.Test.YthjpnnggghfepaaU7
namespace Go.Proofs.Ythjpnnggghfepaa
set_option linter.unusedVariables false
set_option linter.unusedSimpArgs false
open Go.ChangeShapes Go.WideShapes Go.ChangeAt Go.RowKit
abbrev Ahd (a b : List Sp) : Prop := ∀ s ∈ a, ∀ u ∈ b, s.2 < u.1
theorem ahd_trans {a b c : List Sp} (gb : Good b) (h : b ≠ []) (h1 : Ahd a b) (h2 : Ahd b c) : Ahd a c := by
  intro s hs u hu
  obtain ⟨x, r, rfl⟩ := List.exists_cons_of_ne_nil h
  have q1 := h1 s hs x (by simp)
  have q2 := h2 x (by simp) u hu
  have := gb.2.1
  omega
theorem ahd_meet {a b : List Sp} (h : Ahd a b) : ¬ ∃ t, mem a t ∧ mem b t := by
  rintro ⟨t, ⟨s, hs, x1, x2⟩, u, hu, y1, y2⟩
  have := h s hs u hu
  omega
theorem ahd_self {a : List Sp} (ga : Good a) (h : a ≠ []) : ¬ Ahd a a := by
  intro q
  obtain ⟨x, r, rfl⟩ := List.exists_cons_of_ne_nil h
  have := q x (by simp) x (by simp)
  have := ga.2.1
  omega
theorem ahd_hull {a b : List Sp} (ga : Good a) (gb : Good b) (ha : a ≠ []) (hb : b ≠ []) : Ahd a b ↔ hullB a < hullA b := by
  have la : 0 < a.length := List.length_pos_iff.2 ha
  have lb : 0 < b.length := List.length_pos_iff.2 hb
  have e1 : hullB a = (a[a.length - 1]'(by omega)).2 := by unfold hullB; rw [List.getD_eq_getElem?_getD, List.getElem?_eq_getElem (by omega)]; rfl
  have e2 : hullA b = (b[0]'lb).1 := by unfold hullA; rw [List.getD_eq_getElem?_getD, List.getElem?_eq_getElem (by omega)]; rfl
  rw [e1, e2]
  constructor
  · intro h; exact h _ (List.getElem_mem _) _ (List.getElem_mem _)
  · intro h s hs u hu
    obtain ⟨i, hi, rfl⟩ := List.getElem_of_mem hs
    obtain ⟨j, hj, rfl⟩ := List.getElem_of_mem hu
    have q1 := good_le ga i (a.length - 1) hi (by omega) (by omega)
    have q2 : (b[0]'lb).1 ≤ b[j].1 := by
      by_cases w : j = 0
      · subst w; exact Int.le_refl _
      · have := good_lt gb 0 j lb hj (by omega)
        have := good_at gb 0 lb
        omega
    omega
theorem hull_mem {a : List Sp} (ga : Good a) (ha : a ≠ []) : mem a (hullA a) ∧ mem a (hullB a) ∧ ¬ mem a (hullA a - 1) ∧ ¬ mem a (hullB a + 1) ∧ -1099511627776 ≤ hullA a ∧ hullA a ≤ 1099511627776 ∧ -1099511627776 ≤ hullB a ∧ hullB a ≤ 1099511627776 := by
  have la : 0 < a.length := List.length_pos_iff.2 ha
  have e1 : hullB a = (a[a.length - 1]'(by omega)).2 := by unfold hullB; rw [List.getD_eq_getElem?_getD, List.getElem?_eq_getElem (by omega)]; rfl
  have e2 : hullA a = (a[0]'la).1 := by unfold hullA; rw [List.getD_eq_getElem?_getD, List.getElem?_eq_getElem (by omega)]; rfl
  have g0 := good_at ga 0 la
  have g1 := good_at ga (a.length - 1) (by omega)
  rw [e1, e2]
  refine ⟨⟨_, List.getElem_mem _, Int.le_refl _, g0.2.1⟩, ⟨_, List.getElem_mem (by omega), g1.2.1, Int.le_refl _⟩, ?_, ?_, by omega, by omega, by omega, by omega⟩
  · rintro ⟨s, hs, x, y⟩
    obtain ⟨i, hi, rfl⟩ := List.getElem_of_mem hs
    by_cases w : i = 0
    · subst w; omega
    · have := good_lt ga 0 i la hi (by omega)
      omega
  · rintro ⟨s, hs, x, y⟩
    obtain ⟨i, hi, rfl⟩ := List.getElem_of_mem hs
    have := good_le ga i (a.length - 1) hi (by omega) (by omega)
    omega
/-- What SpansAhead has laid. -/
structure Th (w0 w : World) (ao bo co : Option Addr) (n1 n2 n3 c1 c2 c3 : Nat) (a b c : List Sp) (bx by' : Nat) (x1 y1 x2 y2 : Int) : Prop where
  pa : SpAt w ao n1 c1 a
  pb : SpAt w bo n2 c2 b
  pc : SpAt w co n3 c3 c
  f1 : w.cell? ⟨bx, 0, none⟩ = some (.int .i64 x1)
  f2 : w.cell? ⟨bx, 1, none⟩ = some (.int .i64 y1)
  f3 : w.cell? ⟨by', 0, none⟩ = some (.int .i64 x2)
  f4 : w.cell? ⟨by', 1, none⟩ = some (.int .i64 y2)
  bw : Below w0.heap.size w0 w
theorem Th.keep {w0 w w' : World} {ao bo co : Option Addr} {n1 n2 n3 c1 c2 c3 : Nat} {a b c : List Sp} {bx by' : Nat} {x1 y1 x2 y2 : Int} (h : Th w0 w ao bo co n1 n2 n3 c1 c2 c3 a b c bx by' x1 y1 x2 y2) (k : Below w.heap.size w w') : Th w0 w' ao bo co n1 n2 n3 c1 c2 c3 a b c bx by' x1 y1 x2 y2 :=
  ⟨h.pa.keep k, h.pb.keep k, h.pc.keep k, cell_keep h.f1 k, cell_keep h.f2 k, cell_keep h.f3 k, cell_keep h.f4 k, h.bw.trans (k.mono h.bw.size)⟩
theorem hull_v (ao : Option Addr) (n c : Nat) (l : List Sp) (w : World) (hw : SpAt w ao n c l) :
    Calls Try.prog 30 #[.slice ao n c] w fun e w' => ∃ (x y : Int) (ok : Bool), e = .returned (.tuple #[.agg #[.int .i64 x, .int .i64 y], .bool ok]) ∧ Hid (x = hullA l ∧ y = hullB l ∧ ok = decide (0 < n)) ∧ Below w.heap.size w w' :=
  (hull_any ao n c l w hw).mono fun e w' ⟨h1, h2⟩ => ⟨_, _, _, h1, Lib.hid ⟨rfl, rfl, rfl⟩, h2⟩
end Go.Proofs.Ythjpnnggghfepaa
