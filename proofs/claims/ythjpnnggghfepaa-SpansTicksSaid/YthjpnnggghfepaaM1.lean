/- Spans joined one after another, plainly. -/
import Derived.Test.YthjpnnggghfepaaS1
namespace Go.Proofs.Ythjpnnggghfepaa
set_option linter.unusedVariables false
/-- What has been joined, of what went before. -/
structure Joined (P r : List Sp) : Prop where
  good : Good r
  same : ∀ t, mem r t ↔ mem P t
  len : r.length ≤ P.length
  starts : ∀ x ∈ r, ∃ y ∈ P, y.1 = x.1
def TkSp (s : Sp) : Prop := (-1099511627776 ≤ s.1 ∧ s.1 ≤ 1099511627776) ∧ -1099511627776 ≤ s.2 ∧ s.2 ≤ 1099511627776
theorem joined_nil : Joined [] [] := ⟨trivial, fun t => Iff.rfl, Nat.le_refl _, fun x h => by cases h⟩
theorem mem_one (s : Sp) (t : Int) : mem [s] t ↔ s.1 ≤ t ∧ t ≤ s.2 := by rw [mem_cons]; simp [mem_nil]
theorem joined_push {P r : List Sp} (h : Joined P r) (s : Sp) (hs : s.1 ≤ s.2) (ht : TkSp s) (hc : r ≠ [] → ∀ r0 x, r = r0 ++ [x] → x.2 + 1 < s.1) : Joined (P ++ [s]) (r ++ [s]) := by
  refine ⟨(rt_snoc r _ s).2 ⟨h.good, ?_, hs, ht.2.2⟩, fun t => by rw [mem_append, mem_append, h.same], by simp; exact h.len, fun x hx => ?_⟩
  · by_cases e : r = []
    · subst e; exact ht.1.1
    · obtain ⟨x, r0, e2⟩ : ∃ x r0, r = r0 ++ [x] := ⟨r.getLast e, r.dropLast, (List.dropLast_concat_getLast e).symm⟩
      have := hc e r0 x e2
      rw [e2, nxt_snoc]; omega
  · rcases List.mem_append.1 hx with g | g
    · obtain ⟨y, hy, e⟩ := h.starts x g; exact ⟨y, List.mem_append_left _ hy, e⟩
    · have e := List.mem_singleton.1 g
      exact ⟨s, by simp, by rw [e]⟩
theorem joined_grow {P r0 : List Sp} {x : Sp} (h : Joined P (r0 ++ [x])) (s : Sp) (hs : s.1 ≤ s.2) (ht : TkSp s) (hx : x.1 ≤ s.1) (hc : s.1 ≤ x.2 + 1) (m : Int) (hm : m = max x.2 s.2) : Joined (P ++ [s]) (r0 ++ [(x.1, m)]) := by
  obtain ⟨a, b, c, d⟩ := (rt_snoc r0 _ x).1 h.good
  refine ⟨(rt_snoc r0 _ _).2 ⟨a, b, ?_, ?_⟩, fun t => ?_, ?_, fun y hy => ?_⟩
  · show x.1 ≤ m; omega
  · show m ≤ _; have := ht.2.2; omega
  · rw [mem_append, mem_append, ← h.same, mem_append, mem_one, mem_one, mem_one]
    show _ ∨ (x.1 ≤ t ∧ t ≤ m) ↔ _
    constructor
    · rintro (g | ⟨g1, g2⟩)
      · exact .inl (.inl g)
      · by_cases q : t ≤ x.2
        · exact .inl (.inr ⟨g1, q⟩)
        · exact .inr ⟨by omega, by omega⟩
    · rintro ((g | g) | g)
      · exact .inl g
      · exact .inr ⟨g.1, by omega⟩
      · exact .inr ⟨by omega, by omega⟩
  · have := h.len; simp at this ⊢; omega
  · rcases List.mem_append.1 hy with g | g
    · obtain ⟨z, hz, e⟩ := h.starts y (List.mem_append_left _ g); exact ⟨z, List.mem_append_left _ hz, e⟩
    · obtain ⟨z, hz, e⟩ := h.starts x (by simp)
      have e2 := List.mem_singleton.1 g
      exact ⟨z, List.mem_append_left _ hz, by rw [e2]; exact e⟩
end Go.Proofs.Ythjpnnggghfepaa
