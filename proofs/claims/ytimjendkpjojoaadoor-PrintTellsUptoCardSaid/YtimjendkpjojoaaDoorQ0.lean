/- Operators, plainly. -/
import Derived.Test.YtimjendkpjojoaaDoorQ2
import Derived.Test.YtimjendkpjojoaaDoorE5
namespace Go.Proofs.YtimjendkpjojoaaDoor
set_option linter.unusedVariables false
set_option linter.unusedSimpArgs false
open Go.ChangeShapes Go.WideShapes Go.ChangeAt Go.RowKit
theorem nuN_eq (i : Nat) (h : i < 13) : nN i = (Lx.nuN i : Int) := by
  match i, h with
  | 0, _ => rfl
  | 1, _ => rfl
  | 2, _ => rfl
  | 3, _ => rfl
  | 4, _ => rfl
  | 5, _ => rfl
  | 6, _ => rfl
  | 7, _ => rfl
  | 8, _ => rfl
  | 9, _ => rfl
  | 10, _ => rfl
  | 11, _ => rfl
  | 12, _ => rfl
theorem arN_eq (i : Nat) (h : i < 13) : aN i = (Lx.arN i : Int) := by
  match i, h with
  | 0, _ => rfl
  | 1, _ => rfl
  | 2, _ => rfl
  | 3, _ => rfl
  | 4, _ => rfl
  | 5, _ => rfl
  | 6, _ => rfl
  | 7, _ => rfl
  | 8, _ => rfl
  | 9, _ => rfl
  | 10, _ => rfl
  | 11, _ => rfl
  | 12, _ => rfl
theorem nuN_le (i : Nat) (h : i < 13) : Lx.nuN i ≤ 3 ∧ Lx.arN i ≤ 2 := by
  match i, h with
  | 0, _ => exact ⟨by decide, by decide⟩
  | 1, _ => exact ⟨by decide, by decide⟩
  | 2, _ => exact ⟨by decide, by decide⟩
  | 3, _ => exact ⟨by decide, by decide⟩
  | 4, _ => exact ⟨by decide, by decide⟩
  | 5, _ => exact ⟨by decide, by decide⟩
  | 6, _ => exact ⟨by decide, by decide⟩
  | 7, _ => exact ⟨by decide, by decide⟩
  | 8, _ => exact ⟨by decide, by decide⟩
  | 9, _ => exact ⟨by decide, by decide⟩
  | 10, _ => exact ⟨by decide, by decide⟩
  | 11, _ => exact ⟨by decide, by decide⟩
  | 12, _ => exact ⟨by decide, by decide⟩
theorem opN_lt (w : List UInt8) : Lx.opN w < 13 := by
  have : ∀ (L : List (List UInt8)) (i : Nat), Lx.opGo L i w = 0 ∨ Lx.opGo L i w < i + L.length := by
    intro L
    induction L with
    | nil => intro i; exact .inl rfl
    | cons x r ih =>
      intro i
      unfold Lx.opGo
      split
      · exact .inr (by simp)
      · rcases ih (i + 1) with h | h
        · exact .inl h
        · exact .inr (by simp; omega)
  rcases this Lx.opW 1 with h | h
  · unfold Lx.opN; omega
  · have e : Lx.opW.length = 12 := rfl
    unfold Lx.opN; omega
theorem tkb_nil : Lx.TkB [] := fun t ht => by cases ht
theorem tkb_cons {t : Lx.Tk} {l : List Lx.Tk} (h1 : (0 ≤ t.1 ∧ t.1 ≤ 255) ∧ t.2.1.length ≤ 1000 ∧ -9223372036854775808 ≤ t.2.2 ∧ t.2.2 ≤ 9223372036854775807) (h2 : Lx.TkB l) : Lx.TkB (t :: l) := fun x hx => by
  rcases List.mem_cons.1 hx with rfl | h
  · exact ⟨h1.1, Nat.le_trans h1.2.1 (by decide), h1.2.2⟩
  · exact h2 x h
theorem tkb_app {l k : List Lx.Tk} (h : Lx.TkB l) (q : Lx.TkB k) : Lx.TkB (l ++ k) := fun t ht => by
  rcases List.mem_append.1 ht with e | e
  · exact h t e
  · exact q t e
namespace Lx
/-- What shapes are like. -/
def shOk (x : List UInt8) : Bool := decide (x.length ≤ 4) && ((List.range x.length).all fun i => (decide (x.getD i 0 = 110) || decide (x.getD i 0 = 105) || decide (x.getD i 0 = 114) || decide (x.getD i 0 = 61)) || (decide (x.getD i 0 = 101) && decide (i + 1 = x.length)))
theorem shapes_ok : ∀ p ∈ shapes, shOk p.2 = true := by decide
theorem shGo_mem : ∀ (L : List (List UInt8 × List UInt8)) (w x : List UInt8), shGo L w = some x → ∃ p ∈ L, p.2 = x
  | [], w, x, h => by cases h
  | p :: r, w, x, h => by
    unfold shGo at h
    split at h
    · exact ⟨p, List.mem_cons_self, Option.some.inj h⟩
    · obtain ⟨q, h1, h2⟩ := shGo_mem r w x h
      exact ⟨q, List.mem_cons_of_mem _ h1, h2⟩
theorem shape_ok {w x : List UInt8} (h : shape w = some x) : x.length ≤ 4 ∧ ∀ i (hi : i < x.length), (x[i] = 110 ∨ x[i] = 105 ∨ x[i] = 114 ∨ x[i] = 61) ∨ (x[i] = 101 ∧ i + 1 = x.length) := by
  obtain ⟨p, h1, rfl⟩ := shGo_mem shapes w x h
  have := shapes_ok p h1
  unfold shOk at this
  simp only [Bool.and_eq_true, decide_eq_true_eq, List.all_eq_true, List.mem_range, Bool.or_eq_true] at this
  refine ⟨this.1, fun i hi => ?_⟩
  have k := this.2 i hi
  rw [List.getD_eq_getElem?_getD, List.getElem?_eq_getElem hi] at k
  simp only [Option.getD_some] at k
  rcases k with ((k | k) | k) | k
  · rcases k with k | k
    · exact .inl (.inl k)
    · exact .inl (.inr (.inl k))
  · exact .inl (.inr (.inr (.inl k)))
  · exact .inl (.inr (.inr (.inr k)))
  · exact .inr k
theorem endE_parts (l : List Tk) (s : St) : (endE l s).2.parts = s.parts := by
  unfold endE; split
  · rfl
  · exact number_parts l s
theorem span_parts (l : List Tk) (s : St) : (span l s).2.parts = s.parts :=
  (mark_parts l _ _).trans ((endE_parts l _).trans ((mark_parts l _ _).trans ((endE_parts l _).trans (mark_parts l s _))))
end Lx
end Go.Proofs.YtimjendkpjojoaaDoor
