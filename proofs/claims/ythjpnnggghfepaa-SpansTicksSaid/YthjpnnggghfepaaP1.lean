/- Plain: sets that are moved; how many ticks there are. -/
import Derived.Test.YthjpnnggghfepaaX1
import Derived.Test.YthjpnnggghfepaaV1
import Derived.Test.YthjpnnggghfepaaU4
namespace Go.Proofs.Ythjpnnggghfepaa
set_option linter.unusedVariables false
set_option linter.unusedSimpArgs false
open Go.ChangeShapes Go.WideShapes Go.ChangeAt Go.RowKit
theorem moved_nil (d : Int) : moved [] d = [] := rfl
theorem moved_cons (s : Sp) (r : List Sp) (d : Int) : moved (s :: r) d = (s.1 + d, s.2 + d) :: moved r d := rfl
theorem rt_moved : ∀ {l : List Sp} {lo : Int} (d : Int), Rt lo l → (∀ s ∈ l, okSp d s) → Rt (lo + d) (moved l d)
  | [], _, _, _, _ => trivial
  | s :: r, lo, d, ⟨a, b, c, e⟩, h => by
    rw [moved_cons]
    have h0 := h s (List.mem_cons_self ..)
    have := rt_moved d e (fun x hx => h x (List.mem_cons_of_mem _ hx))
    unfold okSp at h0
    refine ⟨by simp only; omega, by simp only; omega, by simp only; omega, ?_⟩
    simp only
    rw [show s.2 + d + 2 = s.2 + 2 + d by omega]
    exact this
theorem good_moved {l : List Sp} (d : Int) (g : Good l) (h : ∀ s ∈ l, okSp d s) : Good (moved l d) := by
  cases l with
  | nil => trivial
  | cons s r =>
    have := rt_moved d g h
    rw [moved_cons] at this ⊢
    have h0 := h s (List.mem_cons_self ..)
    unfold okSp at h0
    exact ⟨by simp only; omega, this.2⟩
theorem mem_moved (l : List Sp) (d t : Int) : mem (moved l d) t ↔ mem l (t - d) := by
  induction l with
  | nil => simp [moved_nil, mem_nil]
  | cons s r ih =>
    rw [moved_cons, mem_cons, mem_cons, ih]
    simp only
    constructor
    · rintro (h | h)
      · exact .inl (by omega)
      · exact .inr h
    · rintro (h | h)
      · exact .inl (by omega)
      · exact .inr h
theorem moved_back (l : List Sp) (d : Int) : moved (moved l d) (-d) = l := by
  induction l with
  | nil => rfl
  | cons s r ih =>
    rw [moved_cons, moved_cons, ih]
    obtain ⟨x, y⟩ := s
    simp only
    rw [show x + d + -d = x by omega, show y + d + -d = y by omega]
theorem count_moved (l : List Sp) (d : Int) : count (moved l d) = count l := by
  induction l with
  | nil => rfl
  | cons s r ih => rw [moved_cons]; simp only [count, ih]; omega
theorem ok_back {l : List Sp} {d : Int} (g : Good l) : ∀ s ∈ moved l d, okSp (-d) s := by
  intro s hs
  unfold moved at hs
  obtain ⟨x, hx, rfl⟩ := List.mem_map.1 hs
  obtain ⟨i, hi, rfl⟩ := List.getElem_of_mem hx
  have := good_at g i hi
  unfold okSp
  simp only
  omega
theorem ok_span {l : List Sp} {d : Int} (g : Good l) (h : ∀ s ∈ l, okSp d s) (h0 : l ≠ []) : -2199023255552 ≤ d ∧ d ≤ 2199023255552 := by
  obtain ⟨s, r, rfl⟩ := List.exists_cons_of_ne_nil h0
  have q := h s (List.mem_cons_self ..)
  have := g.1
  have := g.2.1
  have := g.2.2.1
  unfold okSp at q
  omega
theorem ok_mem {l : List Sp} {d : Int} (h : ∀ s ∈ l, okSp d s) {t : Int} (ht : mem l t) : -1099511627776 ≤ t + d ∧ t + d ≤ 1099511627776 := by
  obtain ⟨s, hs, h1, h2⟩ := ht
  have q := h s hs
  unfold okSp at q
  omega
theorem ok_of_mem {l : List Sp} {d : Int} (g : Good l) (h : ∀ t, mem l t → -1099511627776 ≤ t + d ∧ t + d ≤ 1099511627776) : ∀ s ∈ l, okSp d s := by
  intro s hs
  obtain ⟨i, hi, rfl⟩ := List.getElem_of_mem hs
  have q := good_at g i hi
  have h1 := h l[i].1 ⟨_, List.getElem_mem hi, Int.le_refl _, q.2.1⟩
  have h2 := h l[i].2 ⟨_, List.getElem_mem hi, q.2.1, Int.le_refl _⟩
  exact ⟨h1, h2⟩
theorem ahd_moved (a b : List Sp) (d : Int) : Ahd (moved a d) (moved b d) ↔ Ahd a b := by
  unfold moved
  constructor
  · intro h s hs u hu
    have := h _ (List.mem_map.2 ⟨s, hs, rfl⟩) _ (List.mem_map.2 ⟨u, hu, rfl⟩)
    simp only at this; omega
  · intro h s hs u hu
    obtain ⟨s', hs', rfl⟩ := List.mem_map.1 hs
    obtain ⟨u', hu', rfl⟩ := List.mem_map.1 hu
    have := h s' hs' u' hu'
    simp only; omega
/-- How many ticks below T. -/
def upto (T : Int) : List Sp → Int
  | [] => 0
  | s :: r => (if T ≤ s.1 then 0 else if T ≤ s.2 then T - s.1 else s.2 + 1 - s.1) + upto T r
theorem upto_low : ∀ {l : List Sp} {lo T : Int}, Rt lo l → T ≤ lo → upto T l = 0
  | [], _, _, _, _ => rfl
  | s :: r, lo, T, ⟨a, b, c, d⟩, h => by
    have := upto_low d (T := T) (by omega)
    simp only [upto, this]
    rw [if_pos (by omega)]; rfl
theorem upto_all : ∀ {l : List Sp} {lo T : Int}, Rt lo l → 1099511627776 < T → upto T l = count l
  | [], _, _, _, _ => rfl
  | s :: r, lo, T, ⟨a, b, c, d⟩, h => by
    have := upto_all d h
    simp only [upto, count, this]
    rw [if_neg (by omega), if_neg (by omega)]; omega
theorem upto_yes : ∀ {l : List Sp} {lo T : Int}, Rt lo l → mem l T → upto (T + 1) l = upto T l + 1
  | [], _, T, _, h => absurd h (mem_nil T)
  | s :: r, lo, T, ⟨a, b, c, d⟩, h => by
    simp only [upto]
    rcases (mem_cons s r T).1 h with ⟨x, y⟩ | h
    · have e1 := upto_low d (T := T) (by omega)
      have e2 := upto_low d (T := T + 1) (by omega)
      rw [e1, e2]
      split <;> split <;> (try split) <;> omega
    · have := (rt_lo d h).1
      rw [upto_yes d h]
      rw [if_neg (by omega), if_neg (by omega), if_neg (by omega), if_neg (by omega)]; omega
theorem upto_no : ∀ {l : List Sp} {lo T : Int}, Rt lo l → ¬ mem l T → upto (T + 1) l = upto T l
  | [], _, T, _, h => rfl
  | s :: r, lo, T, ⟨a, b, c, d⟩, h => by
    simp only [upto]
    have h1 : ¬ (s.1 ≤ T ∧ T ≤ s.2) := fun q => h ((mem_cons s r T).2 (.inl q))
    have h2 : ¬ mem r T := fun q => h ((mem_cons s r T).2 (.inr q))
    rw [upto_no d h2]
    split <;> split <;> (try split) <;> (try split) <;> omega
/-- Sums of how many there are, by what is so of each tick. -/
theorem count_sum {a b c d : List Sp} (ga : Good a) (gb : Good b) (gc : Good c) (gd : Good d) (h : ∀ t, ((mem a t ∧ mem b t) ↔ (mem c t ∧ mem d t)) ∧ ((mem a t ∨ mem b t) ↔ (mem c t ∨ mem d t))) : count a + count b = count c + count d := by
  have key : ∀ k : Nat, upto (-1099511627776 + k) a + upto (-1099511627776 + k) b = upto (-1099511627776 + k) c + upto (-1099511627776 + k) d := by
    intro k
    induction k with
    | zero => rw [upto_low ga (by omega), upto_low gb (by omega), upto_low gc (by omega), upto_low gd (by omega)]
    | succ k ih =>
      have e : (-1099511627776 + ((k + 1 : Nat) : Int)) = (-1099511627776 + (k : Int)) + 1 := by omega
      rw [e]
      generalize (-1099511627776 + (k : Int)) = T at ih ⊢
      have := h T
      by_cases p : mem a T <;> by_cases q : mem b T <;> by_cases r : mem c T <;> by_cases s : mem d T <;> simp only [p, q, r, s, and_self, or_self, and_true, true_and, or_true, true_or, or_false, false_or, and_false, false_and, iff_true, iff_false, true_iff, false_iff, not_true_eq_false] at this <;>
        (first | rw [upto_yes ga p] | rw [upto_no ga p]) <;> (first | rw [upto_yes gb q] | rw [upto_no gb q]) <;> (first | rw [upto_yes gc r] | rw [upto_no gc r]) <;> (first | rw [upto_yes gd s] | rw [upto_no gd s]) <;> omega
  have k := key 2199023255553
  have e : (-1099511627776 + ((2199023255553 : Nat) : Int)) = 1099511627777 := by decide
  rw [e] at k
  rwa [upto_all ga (by omega), upto_all gb (by omega), upto_all gc (by omega), upto_all gd (by omega)] at k
end Go.Proofs.Ythjpnnggghfepaa
