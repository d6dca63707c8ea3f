/- Plain: the document's Set, place by place. -/
import Derived.Test.YthjpnnggghfepaaR5
import Derived.Test.YthjpnnggghfepaaR1
namespace Go.Proofs.Ythjpnnggghfepaa
set_option linter.unusedVariables false
set_option linter.unusedSimpArgs false
open Go.ChangeShapes Go.WideShapes Go.ChangeAt Go.RowKit
/-- What is told so far, up to a place. -/
structure Told (F : Int → Bool) (x : Int) (out : List Sp) : Prop where
  good : Good out
  next : nxt (-1099511627776) out ≤ x + 1
  empty : out = [] → -1099511627776 ≤ x
  ticks : ∀ t, mem out t ↔ t < x ∧ F t = true
theorem told_skip {F : Int → Bool} {x y : Int} {out : List Sp} (h : Told F x out) (hxy : x < y) (hc : ∀ t, x ≤ t → t < y → F t = F x) (hf : F x = false) : Told F y out := by
  refine ⟨h.good, by have := h.next; omega, fun e => by have := h.empty e; omega, fun t => ?_⟩
  rw [h.ticks]
  constructor
  · rintro ⟨a, b⟩; exact ⟨by omega, b⟩
  · rintro ⟨a, b⟩
    by_cases q : t < x
    · exact ⟨q, b⟩
    · rw [hc t (by omega) a, hf] at b; cases b
theorem told_more {F : Int → Bool} {x y : Int} {out : List Sp} (h : Told F x out) (hxy : x < y) (hy : y ≤ 1099511627777) (hc : ∀ t, x ≤ t → t < y → F t = F x) (hf : F x = true) (hn : nxt (-1099511627776) out ≤ x) : Told F y (out ++ [(x, y - 1)]) := by
  refine ⟨(rt_snoc _ _ _).2 ⟨h.good, hn, by simp only; omega, by simp only; omega⟩, by rw [nxt_snoc]; simp only; omega, fun e => by simp at e, fun t => ?_⟩
  rw [mem_append, mem_cons, h.ticks]
  constructor
  · rintro (⟨a, b⟩ | ⟨a, b⟩ | z)
    · exact ⟨by omega, b⟩
    · simp only at a b; exact ⟨by omega, by rw [hc t a (by omega)]; exact hf⟩
    · exact absurd z (mem_nil t)
  · rintro ⟨a, b⟩
    by_cases q : t < x
    · exact .inl ⟨q, b⟩
    · exact .inr (.inl ⟨by simp only; omega, by simp only; omega⟩)
theorem told_push {F : Int → Bool} {x y : Int} {out : List Sp} (h : Told F x out) (hxy : x < y) (hy : y ≤ 1099511627777) (hc : ∀ t, x ≤ t → t < y → F t = F x) (hf : F x = true) (hn : ∀ o s, out = o ++ [s] → s.2 ≠ x - 1) : Told F y (out ++ [(x, y - 1)]) := by
  refine told_more h hxy hy hc hf ?_
  by_cases e : out = []
  · subst e; exact h.empty rfl
  · have e2 := (List.dropLast_concat_getLast e).symm
    have q := hn _ _ e2
    have n := h.next
    rw [e2, nxt_snoc] at n ⊢
    omega
theorem told_join {F : Int → Bool} {x y : Int} {o : List Sp} {p q : Int} (h : Told F x (o ++ [(p, q)])) (hxy : x < y) (hy : y ≤ 1099511627777) (hc : ∀ t, x ≤ t → t < y → F t = F x) (hf : F x = true) (hq : q = x - 1) : Told F y (o ++ [(p, y - 1)]) := by
  have g := (rt_snoc _ _ _).1 h.good
  simp only at g
  refine ⟨(rt_snoc _ _ _).2 ⟨g.1, g.2.1, by simp only; omega, by simp only; omega⟩, by rw [nxt_snoc]; simp only; omega, fun e => by simp at e, fun t => ?_⟩
  have k := h.ticks t
  rw [mem_append, mem_cons] at k ⊢
  simp only at k ⊢
  constructor
  · rintro (a | ⟨a, b⟩ | z)
    · have := k.1 (.inl a); exact ⟨by omega, this.2⟩
    · by_cases w : t < x
      · have := k.1 (.inr (.inl ⟨a, by omega⟩)); exact ⟨by omega, this.2⟩
      · exact ⟨by omega, by rw [hc t (by omega) (by omega)]; exact hf⟩
    · exact absurd z (mem_nil t)
  · rintro ⟨a, b⟩
    by_cases w : t < x
    · rcases k.2 ⟨w, b⟩ with z | z | z
      · exact .inl z
      · exact .inr (.inl ⟨z.1, by omega⟩)
      · exact absurd z (mem_nil t)
    · have := g.2.2.1
      exact .inr (.inl ⟨by omega, by omega⟩)
/-- Between two places all ticks are alike. -/
theorem flat_mem {a : List Sp} {x y t : Int} (hp : ∀ s ∈ a, (s.1 ≤ x ∨ y ≤ s.1) ∧ (s.2 + 1 ≤ x ∨ y ≤ s.2 + 1)) (h1 : x ≤ t) (h2 : t < y) : mem a t ↔ mem a x := by
  constructor
  · rintro ⟨s, hs, p, q⟩
    have := hp s hs
    exact ⟨s, hs, by omega, by omega⟩
  · rintro ⟨s, hs, p, q⟩
    have := hp s hs
    exact ⟨s, hs, by omega, by omega⟩
/-- Of numbers that rise none is between two that follow one another. -/
theorem inc_gap {P : List Int} (h : Inc P) {i : Nat} (hi : i + 1 < P.length) {t : Int} (ht : t ∈ P) : t ≤ P[i] ∨ P[i + 1] ≤ t := by
  obtain ⟨j, hj, rfl⟩ := List.getElem_of_mem ht
  have lt : ∀ (u v : Nat) (hu : u < P.length) (hv : v < P.length), u < v → P[u] < P[v] := fun u v hu hv q => List.pairwise_iff_getElem.1 h u v hu hv q
  by_cases q : j ≤ i
  · left
    by_cases e : j = i
    · subst e; exact Int.le_refl _
    · have := lt j i hj (by omega) (by omega); omega
  · right
    by_cases e : j = i + 1
    · subst e; exact Int.le_refl _
    · have := lt (i + 1) j hi hj (by omega); omega
/-- What Set asks of spans: their ends are ticks, in order. -/
def Spans (a : List Sp) : Prop := ∀ s ∈ a, s.1 ≤ s.2 ∧ -1099511627776 ≤ s.1 ∧ s.2 ≤ 1099511627776
theorem spans_good {a : List Sp} (g : Good a) : Spans a := by
  intro s hs
  obtain ⟨i, hi, rfl⟩ := List.getElem_of_mem hs
  have := good_at g i hi
  omega
/-- The places of two lists of spans, and what they are good for. -/
structure Plc (a b : List Sp) (P : List Int) : Prop where
  inc : Inc P
  mem : ∀ t, t ∈ P ↔ (∃ s ∈ a, t = s.1 ∨ t = s.2 + 1) ∨ ∃ s ∈ b, t = s.1 ∨ t = s.2 + 1
  len : P.length ≤ 2 * a.length + 2 * b.length
theorem plc_pls (a b : List Sp) : Plc a b (pls (pls [] a) b) := by
  obtain ⟨a1, a2, a3⟩ := pls_ok [] a List.Pairwise.nil
  obtain ⟨b1, b2, b3⟩ := pls_ok (pls [] a) b a1
  refine ⟨b1, fun t => ?_, by simp at a3; omega⟩
  rw [b2, a2]
  simp
theorem Plc.low {a b : List Sp} {P : List Int} (h : Plc a b P) (sa : Spans a) (sb : Spans b) {t : Int} (ht : t ∈ P) : -1099511627776 ≤ t ∧ t ≤ 1099511627777 := by
  rcases (h.mem t).1 ht with ⟨s, hs, e⟩ | ⟨s, hs, e⟩
  · have := sa s hs; omega
  · have := sb s hs; omega
theorem Plc.flat {a b : List Sp} {P : List Int} (h : Plc a b P) {i : Nat} (hi : i + 1 < P.length) {t : Int} (h1 : P[i] ≤ t) (h2 : t < P[i + 1]) : (Go.Proofs.Ythjpnnggghfepaa.mem a t ↔ Go.Proofs.Ythjpnnggghfepaa.mem a P[i]) ∧ (Go.Proofs.Ythjpnnggghfepaa.mem b t ↔ Go.Proofs.Ythjpnnggghfepaa.mem b P[i]) := by
  refine ⟨flat_mem (fun s hs => ⟨?_, ?_⟩) h1 h2, flat_mem (fun s hs => ⟨?_, ?_⟩) h1 h2⟩
  · exact inc_gap h.inc hi ((h.mem _).2 (.inl ⟨s, hs, .inl rfl⟩))
  · exact inc_gap h.inc hi ((h.mem _).2 (.inl ⟨s, hs, .inr rfl⟩))
  · exact inc_gap h.inc hi ((h.mem _).2 (.inr ⟨s, hs, .inl rfl⟩))
  · exact inc_gap h.inc hi ((h.mem _).2 (.inr ⟨s, hs, .inr rfl⟩))
/-- Outside of all places there is no tick. -/
theorem Plc.out {a b : List Sp} {P : List Int} (h : Plc a b P) (sa : Spans a) (sb : Spans b) {t : Int} (ht : Go.Proofs.Ythjpnnggghfepaa.mem a t ∨ Go.Proofs.Ythjpnnggghfepaa.mem b t) : (∃ x ∈ P, x ≤ t) ∧ ∃ y ∈ P, t < y := by
  rcases ht with ⟨s, hs, p, q⟩ | ⟨s, hs, p, q⟩
  · exact ⟨⟨s.1, (h.mem _).2 (.inl ⟨s, hs, .inl rfl⟩), p⟩, s.2 + 1, (h.mem _).2 (.inl ⟨s, hs, .inr rfl⟩), by omega⟩
  · exact ⟨⟨s.1, (h.mem _).2 (.inr ⟨s, hs, .inl rfl⟩), p⟩, s.2 + 1, (h.mem _).2 (.inr ⟨s, hs, .inr rfl⟩), by omega⟩
theorem inc_ends {P : List Int} (h : Inc P) {x : Int} (hx : x ∈ P) (h0 : 0 < P.length) : P[0] ≤ x ∧ x ≤ P[P.length - 1] := by
  obtain ⟨j, hj, rfl⟩ := List.getElem_of_mem hx
  have lt : ∀ (u v : Nat) (hu : u < P.length) (hv : v < P.length), u < v → P[u] < P[v] := fun u v hu hv q => List.pairwise_iff_getElem.1 h u v hu hv q
  constructor
  · by_cases e : j = 0
    · subst e; exact Int.le_refl _
    · have := lt 0 j h0 hj (by omega); omega
  · by_cases e : j = P.length - 1
    · subst e; exact Int.le_refl _
    · have := lt j (P.length - 1) hj (by omega) (by omega); omega
noncomputable def Fk (k : Int) (a b : List Sp) (t : Int) : Bool := by classical exact inB k (decide (mem a t)) (decide (mem b t))
theorem inB_ff (k : Int) : inB k false false = false := by unfold inB; split <;> (try split) <;> rfl
theorem Fk_out {k : Int} {a b : List Sp} {t : Int} (h : ¬ (mem a t ∨ mem b t)) : Fk k a b t = false := by
  unfold Fk
  simp only [not_or] at h
  simp [h.1, h.2, inB_ff]
theorem Fk_flat {k : Int} {a b : List Sp} {t x : Int} (h1 : mem a t ↔ mem a x) (h2 : mem b t ↔ mem b x) : Fk k a b t = Fk k a b x := by
  unfold Fk; rw [propext h1, propext h2]
theorem told_start {k : Int} {a b : List Sp} {P : List Int} (h : Plc a b P) (sa : Spans a) (sb : Spans b) (h0 : 0 < P.length) : Told (Fk k a b) P[0] [] := by
  have lo := h.low sa sb (List.getElem_mem h0)
  refine ⟨trivial, (show (-1099511627776 : Int) ≤ P[0] + 1 by omega), fun _ => by omega, fun t => ?_⟩
  constructor
  · intro z; exact absurd z (mem_nil t)
  · rintro ⟨p, q⟩
    exfalso
    by_cases z : mem a t ∨ mem b t
    · obtain ⟨⟨x, hx, e⟩, _⟩ := h.out sa sb z
      have := (inc_ends h.inc hx h0).1; omega
    · rw [Fk_out z] at q; cases q
theorem told_end {k : Int} {a b : List Sp} {P : List Int} {out : List Sp} (h : Plc a b P) (sa : Spans a) (sb : Spans b) (h0 : 0 < P.length) (ht : Told (Fk k a b) (P[P.length - 1]) out) : Good out ∧ ∀ t, mem out t ↔ Fk k a b t = true := by
  refine ⟨ht.good, fun t => ?_⟩
  rw [ht.ticks]
  constructor
  · exact fun z => z.2
  · intro q
    refine ⟨?_, q⟩
    by_cases z : mem a t ∨ mem b t
    · obtain ⟨_, y, hy, e⟩ := h.out sa sb z
      have := (inc_ends h.inc hy h0).2; omega
    · rw [Fk_out z] at q; cases q
theorem told_none {k : Int} {a b : List Sp} {P : List Int} (h : Plc a b P) (sa : Spans a) (sb : Spans b) (h0 : P.length = 0) : ∀ t, mem [] t ↔ Fk k a b t = true := by
  intro t
  constructor
  · intro z; exact absurd z (mem_nil t)
  · intro q
    exfalso
    by_cases z : mem a t ∨ mem b t
    · obtain ⟨⟨x, hx, e⟩, _⟩ := h.out sa sb z
      have := List.length_pos_of_mem hx; omega
    · rw [Fk_out z] at q; cases q
end Go.Proofs.Ythjpnnggghfepaa
