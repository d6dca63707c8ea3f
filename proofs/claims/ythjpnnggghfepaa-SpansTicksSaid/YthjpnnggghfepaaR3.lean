/- Numbers that rise: plainly, in memory; the contract of the document's insert. -/
import Derived.Test.YthjpnnggghfepaaS8
namespace Go.Proofs.Ythjpnnggghfepaa
set_option linter.unusedVariables false
set_option linter.unusedSimpArgs false
open Go.ChangeShapes Go.WideShapes Go.ChangeAt Go.RowKit
theorem snoc_ind {α : Type} {motive : List α → Prop} (nil : motive []) (append_singleton : ∀ (l : List α) (y : α), motive l → motive (l ++ [y])) (l : List α) : motive l := by
  rw [← List.reverse_reverse l]
  induction l.reverse with
  | nil => exact nil
  | cons a r ih => rw [List.reverse_cons]; exact append_singleton _ _ ih
/-- One step of insert. -/
def insStep (x : Int) (st : Bool × List Int) (y : Int) : Bool × List Int :=
  if y = x then (true, st.2 ++ [y]) else if st.1 = false ∧ x < y then (true, st.2 ++ [x] ++ [y]) else (st.1, st.2 ++ [y])
def insRun (x : Int) (l : List Int) : Bool × List Int := l.foldl (insStep x) (false, [])
def ins (x : Int) (l : List Int) : List Int := if (insRun x l).1 then (insRun x l).2 else (insRun x l).2 ++ [x]
theorem insRun_snoc (x : Int) (l : List Int) (y : Int) : insRun x (l ++ [y]) = insStep x (insRun x l) y := by
  unfold insRun; rw [List.foldl_append]; rfl
/-- Rising, all below a number. -/
def Up : List Int → Prop
  | [] => True
  | [_] => True
  | a :: b :: r => a < b ∧ Up (b :: r)
abbrev Inc (l : List Int) : Prop := l.Pairwise (· < ·)
theorem insRun_ok (x : Int) (l : List Int) (h : Inc l) :
    ((insRun x l).1 = false → (∀ y ∈ l, y < x) ∧ (insRun x l).2 = l) ∧
    ((insRun x l).1 = true → (∃ y ∈ l, x ≤ y) ∧ Inc (insRun x l).2 ∧ (∀ t, t ∈ (insRun x l).2 ↔ t ∈ l ∨ t = x) ∧ (insRun x l).2.length ≤ l.length + 1) := by
  induction l using snoc_ind with
  | nil => exact ⟨fun _ => ⟨(fun y hy => by cases hy), rfl⟩, (fun h => by cases h)⟩
  | append_singleton l y ih =>
    rw [Inc, List.pairwise_append] at h
    obtain ⟨h1, _, h3⟩ := h
    have ih := ih h1
    have hy : ∀ t ∈ l, t < y := fun t ht => h3 t ht y (List.mem_singleton.2 rfl)
    rw [insRun_snoc]
    unfold insStep
    cases hb : (insRun x l).1
    · obtain ⟨q1, q2⟩ := ih.1 hb
      by_cases e : y = x
      · rw [if_pos e]
        subst e
        refine ⟨(fun h => by cases h), fun _ => ⟨⟨y, by simp, Int.le_refl _⟩, ?_, ?_, ?_⟩⟩
        · rw [q2, Inc, List.pairwise_append]; exact ⟨h1, by simp, h3⟩
        · intro t; rw [q2]; simp
        · rw [q2]; simp
      · rw [if_neg e]
        by_cases e2 : x < y
        · rw [if_pos ⟨rfl, e2⟩]
          refine ⟨(fun h => by cases h), fun _ => ⟨⟨y, by simp, by omega⟩, ?_, ?_, ?_⟩⟩
          · rw [q2, Inc, List.pairwise_append, List.pairwise_append]
            refine ⟨⟨h1, by simp, fun a ha b hb => ?_⟩, by simp, fun a ha b hb => ?_⟩
            · rw [List.mem_singleton.1 hb]; exact q1 a ha
            · rw [List.mem_singleton.1 hb]
              rcases List.mem_append.1 ha with ha | ha
              · exact hy a ha
              · rw [List.mem_singleton.1 ha]; exact e2
          · intro t; rw [q2]; simp only [List.mem_append, List.mem_singleton]; constructor
            · rintro ((z | z) | z)
              · exact .inl (.inl z)
              · exact .inr z
              · exact .inl (.inr z)
            · rintro ((z | z) | z)
              · exact .inl (.inl z)
              · exact .inr z
              · exact .inl (.inr z)
          · rw [q2]; simp
        · rw [if_neg (by simp [e2])]
          refine ⟨fun _ => ⟨?_, by rw [q2]⟩, fun h => ?_⟩
          · intro t ht
            rcases List.mem_append.1 ht with ht | ht
            · exact q1 t ht
            · rw [List.mem_singleton.1 ht]; omega
          · simp at h
    · obtain ⟨⟨z, q1, q1'⟩, q2, q3, q4⟩ := ih.2 hb
      have hz := hy z q1
      rw [if_neg (by omega), if_neg (by simp)]
      refine ⟨(fun h => by simp at h), fun _ => ⟨⟨y, by simp, by omega⟩, ?_, ?_, ?_⟩⟩
      · rw [Inc, List.pairwise_append]
        refine ⟨q2, by simp, fun a ha b hb => ?_⟩
        rw [List.mem_singleton.1 hb]
        rcases (q3 a).1 ha with ha | rfl
        · exact hy a ha
        · omega
      · intro t; simp only [List.mem_append, List.mem_singleton, q3]; constructor
        · rintro ((z | z) | z)
          · exact .inl (.inl z)
          · exact .inr z
          · exact .inl (.inr z)
        · rintro ((z | z) | z)
          · exact .inl (.inl z)
          · exact .inr z
          · exact .inl (.inr z)
      · simp; omega
theorem ins_ok {x : Int} {l : List Int} (h : Inc l) : Inc (ins x l) ∧ (∀ t, t ∈ ins x l ↔ t ∈ l ∨ t = x) ∧ (ins x l).length ≤ l.length + 1 := by
  have q := insRun_ok x l h
  unfold ins
  cases hb : (insRun x l).1
  · obtain ⟨q1, q2⟩ := q.1 hb
    rw [if_neg (by simp), q2]
    refine ⟨?_, ?_, ?_⟩
    · rw [Inc, List.pairwise_append]; exact ⟨h, by simp, fun a ha b hb => by rw [List.mem_singleton.1 hb]; exact q1 a ha⟩
    · intro t; simp
    · simp
  · obtain ⟨_, q2, q3, q4⟩ := q.2 hb
    rw [if_pos rfl]
    exact ⟨q2, q3, q4⟩
theorem insRun_len (x : Int) (l : List Int) : (insRun x l).2.length ≤ 2 * l.length := by
  induction l using snoc_ind with
  | nil => simp [insRun]
  | append_singleton l y ih => rw [insRun_snoc]; unfold insStep; split <;> (try split) <;> simp <;> omega
/-- A slice of numbers. -/
def inC (l : List Int) : List Value := l.map (Value.int .i64)
theorem info3 : (Try.prog.info? 3).map (fun i => (i.zero, i.size, i.bytes)) = some (some (.int .i64 0), 1, 8) := by kernel_rfl
theorem own_cell1 {w : World} {B n : Nat} {v : Value} {l : List Int} {g c p k : Nat} (h : w.ownsRow B 3 1 v n (inC l)) (e : v = .slice (some ⟨g, p, none⟩) k c) (i : Nat) (hi : i < l.length) : p = 0 ∧ k = n ∧ n ≤ c ∧ w.cell? ⟨g, i, none⟩ = some (.int .i64 l[i]) := by
  have hc := h
  rcases h.2 with ⟨rfl, _⟩ | ⟨g', cap, cur, rfl, h2, h3, h4, h5, h6⟩
  · cases e
  · cases e
    have z := hc.cells (g := g) rfl i (.int .i64 l[i]) (by simp [inC, hi])
    rw [add_off, Nat.zero_add] at z
    exact ⟨rfl, rfl, h4, z⟩
end Go.Proofs.Ythjpnnggghfepaa
