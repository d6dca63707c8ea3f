/- Networks of bounds, plainly: the least lengths of all ways are the closure's bounds. -/
import Derived.Test.YtnhbinghinlhgaaNets
namespace Go.Proofs.Ytnhbinghinlhgaa
set_option linter.unusedVariables false
open Bd
def meet (S : Nat → Bool) (k : Nat) : Nat → Bool := fun m => if m = k then true else S m
/-- The least of a bound and those of each one that is not met. -/
def scan (S : Nat → Bool) (t : Nat) (b : Bd) (g : Nat → Bd) : Nat → Bd
  | 0 => b
  | k + 1 => if S k = true ∨ k = t then scan S t b g k else low (scan S t b g k) (g k)
/-- The least length of all ways of at most so many steps more that meet none of some. -/
def lst (n : Nat) (M : Mat) : Nat → (Nat → Bool) → Nat → Nat → Bd
  | 0, _, u, t => M u t
  | f + 1, S, u, t => scan S t (M u t) (fun k => add (M u k) (lst n M f (meet S k) k t)) n
def way (n : Nat) (M : Mat) (i j : Nat) : Bd := lst n M n (meet (fun _ => false) i) i j

theorem scan_le (S : Nat → Bool) (t : Nat) (b : Bd) (g : Nat → Bd) : ∀ n, le (scan S t b g n) b
  | 0 => le_refl _
  | n + 1 => by
    unfold scan
    split
    · exact scan_le S t b g n
    · exact le_trans (low_le_left _ _) (scan_le S t b g n)
theorem scan_at (S : Nat → Bool) (t : Nat) (b : Bd) (g : Nat → Bd) : ∀ n k, k < n → S k = false → k ≠ t → le (scan S t b g n) (g k)
  | n + 1, k, h, hs, ht => by
    unfold scan
    by_cases e : k = n
    · subst e
      rw [if_neg (by rw [hs]; simp [ht])]
      exact low_le_right _ _
    · have i := scan_at S t b g n k (by omega) hs ht
      split
      · exact i
      · exact le_trans (low_le_left _ _) i
theorem scan_glb {S : Nat → Bool} {t : Nat} {b c : Bd} {g : Nat → Bd} (hb : le c b) : ∀ n, (∀ k, k < n → S k = false → k ≠ t → le c (g k)) → le c (scan S t b g n)
  | 0, _ => hb
  | n + 1, h => by
    unfold scan
    have i := scan_glb (S := S) (t := t) (g := g) hb n (fun k hk => h k (by omega))
    split
    · exact i
    · rename_i q
      refine le_low i (h n (by omega) ?_ (fun e => q (.inr e)))
      cases hs : S n
      · rfl
      · exact absurd (.inl hs) q
theorem scan_congr {S : Nat → Bool} {t : Nat} {b : Bd} {g h : Nat → Bd} : ∀ n, (∀ k, k < n → S k = false → k ≠ t → g k = h k) → scan S t b g n = scan S t b h n
  | 0, _ => rfl
  | n + 1, e => by
    unfold scan
    rw [scan_congr n (fun k hk => e k (by omega))]
    split
    · rfl
    · rename_i q
      rw [e n (by omega) (by cases hs : S n; rfl; exact absurd (.inl hs) q) (fun z => q (.inr z))]
/-- How many are not met. -/
def cnt (S : Nat → Bool) : Nat → Nat
  | 0 => 0
  | n + 1 => cnt S n + if S n = true then 0 else 1
theorem cnt_meet_far (S : Nat → Bool) (k : Nat) : ∀ n, n ≤ k → cnt (meet S k) n = cnt S n
  | 0, _ => rfl
  | n + 1, h => by
    unfold cnt
    rw [cnt_meet_far S k n (by omega), show meet S k n = S n from if_neg (by omega)]
theorem cnt_meet (S : Nat → Bool) (k : Nat) (hk : S k = false) : ∀ n, k < n → cnt (meet S k) n + 1 = cnt S n
  | n + 1, h => by
    unfold cnt
    by_cases e : k = n
    · subst e
      rw [cnt_meet_far S k k (Nat.le_refl _), show meet S k k = true from if_pos rfl, hk]; simp
    · have := cnt_meet S k hk n (by omega)
      rw [show meet S k n = S n from if_neg (by omega)]; omega
theorem cnt_le (S : Nat → Bool) : ∀ n, cnt S n ≤ n
  | 0 => Nat.le_refl _
  | n + 1 => by have := cnt_le S n; unfold cnt; split <;> omega
theorem cnt_pos (S : Nat → Bool) (k : Nat) (hk : S k = false) (n : Nat) (h : k < n) : 0 < cnt S n := by
  have := cnt_meet S k hk n h; omega
theorem lst_le (n : Nat) (M : Mat) (f : Nat) (S : Nat → Bool) (u t : Nat) : le (lst n M f S u t) (M u t) := by
  cases f with
  | zero => exact le_refl _
  | succ f => exact scan_le _ _ _ _ _
theorem lst_at (n : Nat) (M : Mat) (f : Nat) (S : Nat → Bool) (u t k : Nat) (hk : k < n) (hs : S k = false) (ht : k ≠ t) : le (lst n M (f + 1) S u t) (add (M u k) (lst n M f (meet S k) k t)) :=
  scan_at S t _ (fun k => add (M u k) (lst n M f (meet S k) k t)) n k hk hs ht
/-- More steps, fewer that are met: no longer. -/
theorem lst_mono (n : Nat) (M : Mat) : ∀ (f : Nat) (S S' : Nat → Bool) (u t : Nat), (∀ k, k < n → S k = true → S' k = true) → le (lst n M f S u t) (lst n M f S' u t)
  | 0, _, _, _, _, _ => le_refl _
  | f + 1, S, S', u, t, h => by
    refine scan_glb (scan_le _ _ _ _ _) n (fun k hk hs ht => ?_)
    have hs' : S k = false := by
      cases e : S k
      · rfl
      · rw [h k hk e] at hs; cases hs
    refine le_trans (lst_at n M f S u t k hk hs' ht) (add_mono (le_refl _) (lst_mono n M f _ _ _ _ (fun m hm e => ?_)))
    unfold meet at e ⊢
    split
    · rfl
    · rename_i q; rw [if_neg q] at e; exact h m hm e
theorem lst_more (n : Nat) (M : Mat) : ∀ (f : Nat) (S : Nat → Bool) (u t : Nat), le (lst n M (f + 1) S u t) (lst n M f S u t)
  | 0, S, u, t => lst_le n M 1 S u t
  | f + 1, S, u, t => scan_glb (lst_le _ _ _ _ _ _) n (fun k hk hs ht => le_trans (lst_at n M (f + 1) S u t k hk hs ht) (add_mono (le_refl _) (lst_more n M f _ _ _)))
theorem lst_full (n : Nat) (M : Mat) : ∀ (f : Nat) (S : Nat → Bool) (u t : Nat), cnt S n ≤ f → lst n M (f + 1) S u t = lst n M f S u t
  | 0, S, u, t, h => by
    have e : scan S t (M u t) (fun k => add (M u k) (lst n M 0 (meet S k) k t)) n = scan S t (M u t) (fun k => M u t) n := scan_congr n (fun k hk hs _ => by have := cnt_pos S k hs n hk; omega)
    show scan S t (M u t) (fun k => add (M u k) (lst n M 0 (meet S k) k t)) n = M u t
    rw [e]
    have z : ∀ m, scan S t (M u t) (fun k => M u t) m = M u t := by
      intro m
      induction m with
      | zero => rfl
      | succ m ih => unfold scan; rw [ih, low_self]; simp
    exact z n
  | f + 1, S, u, t, h => scan_congr n (fun k hk hs _ => by
      show add (M u k) (lst n M (f + 1) (meet S k) k t) = add (M u k) (lst n M f (meet S k) k t)
      rw [lst_full n M f (meet S k) k t (by have := cnt_meet S k hs n hk; omega)])
/-- A way meets one more, or it does not. -/
theorem lst_split (n : Nat) (M : Mat) : ∀ (f : Nat) (S : Nat → Bool) (u t i : Nat) (c : Bd), le c (lst n M f (meet S i) u t) → le c (add (lst n M f S u i) (lst n M f (meet S i) i t)) → le c (lst n M f S u t)
  | 0, S, u, t, i, c, h1, h2 => h1
  | f + 1, S, u, t, i, c, h1, h2 => by
    refine scan_glb (le_trans h1 (lst_le _ _ _ _ _ _)) n (fun k hk hs ht => ?_)
    by_cases e : k = i
    · subst e
      exact le_trans h2 (add_mono (lst_le _ _ _ _ _ _) (lst_more _ _ _ _ _ _))
    · -- the tail by itself
      have com : ∀ m, m < n → meet (meet S k) i m = meet (meet S i) k m := by
        intro m _; unfold meet; split <;> split <;> rfl
      cases hx : M u k with
      | none => simp only [add]; cases c <;> trivial
      | some x =>
        have a1 := lst_at n M f (meet S i) u t k hk (by unfold meet; rw [if_neg e]; exact hs) ht
        have a2 := lst_at n M f S u i k hk hs e
        rw [hx] at a1 a2
        have b1 := le_trans h1 a1
        have b2 := le_trans h2 (add_mono a2 (le_refl _))
        cases c with
        | none =>
          have q := lst_split n M f (meet S k) k t i none
            (by cases hy : lst n M f (meet (meet S k) i) k t with
                | none => trivial
                | some y =>
                  have z := lst_mono n M f (meet (meet S i) k) (meet (meet S k) i) k t (fun m hm e => by rw [com m hm]; exact e)
                  rw [hy] at z
                  cases hz : lst n M f (meet (meet S i) k) k t with
                  | none => rw [hz] at z; exact z
                  | some zz => rw [hz] at b1; exact b1)
            (by cases hy : lst n M f (meet S k) k i with
                | none => trivial
                | some y =>
                  cases hv : lst n M f (meet (meet S k) i) i t with
                  | none => trivial
                  | some v =>
                    have z1 := lst_mono n M f (meet S i) (meet (meet S k) i) i t (fun m hm e => by unfold meet at e ⊢; split <;> simp_all)
                    have z2 := le_trans (lst_more n M f (meet S i) i t) z1
                    rw [hv] at z2
                    cases hw : lst n M (f + 1) (meet S i) i t with
                    | none => rw [hw] at z2; exact z2
                    | some ww => rw [hw, hy] at b2; exact b2)
          cases hy : lst n M f (meet S k) k t with
          | none => trivial
          | some y => rw [hy] at q; exact q
        | some c =>
          have q := lst_split n M f (meet S k) k t i (some (c - x))
            (by cases hy : lst n M f (meet (meet S k) i) k t with
                | none => trivial
                | some y =>
                  have z := lst_mono n M f (meet (meet S i) k) (meet (meet S k) i) k t (fun m hm e => by rw [com m hm]; exact e)
                  rw [hy] at z
                  cases hz : lst n M f (meet (meet S i) k) k t with
                  | none => rw [hz] at z; exact absurd z (by simp [le])
                  | some zz => rw [hz] at b1 z; simp only [add, le] at b1 z ⊢; omega)
            (by cases hy : lst n M f (meet S k) k i with
                | none => trivial
                | some y =>
                  cases hv : lst n M f (meet (meet S k) i) i t with
                  | none => trivial
                  | some v =>
                    have z1 := lst_mono n M f (meet S i) (meet (meet S k) i) i t (fun m hm e => by unfold meet at e ⊢; split <;> simp_all)
                    have z2 := le_trans (lst_more n M f (meet S i) i t) z1
                    rw [hv] at z2
                    cases hw : lst n M (f + 1) (meet S i) i t with
                    | none => rw [hw] at z2; exact absurd z2 (by simp [le])
                    | some ww => rw [hw, hy] at b2; rw [hw] at z2; simp only [add, le] at b2 z2 ⊢; omega)
          cases hy : lst n M f (meet S k) k t with
          | none => trivial
          | some y => rw [hy] at q; simp only [add, le] at q ⊢; omega
/-- Whether the end is met says nothing. -/
theorem lst_end (n : Nat) (M : Mat) : ∀ (f : Nat) (S : Nat → Bool) (u t : Nat), le (lst n M f (meet S t) u t) (lst n M f S u t)
  | 0, _, _, _ => le_refl _
  | f + 1, S, u, t => by
    refine scan_glb (lst_le _ _ _ _ _ _) n (fun k hk hs ht => ?_)
    refine le_trans (lst_at n M f (meet S t) u t k hk (by unfold meet; rw [if_neg ht]; exact hs) ht) (add_mono (le_refl _) ?_)
    refine le_trans (lst_mono n M f _ (meet (meet S k) t) k t (fun m hm e => ?_)) (lst_end n M f (meet S k) k t)
    unfold meet at e ⊢; split <;> simp_all

theorem cnt_none : ∀ n, cnt (fun _ => false) n = n
  | 0 => rfl
  | n + 1 => by unfold cnt; rw [cnt_none n]; simp
theorem cnt_one (i n : Nat) (h : i < n) : cnt (meet (fun _ => false) i) n + 1 = n := by rw [cnt_meet _ i rfl n h, cnt_none]
/-- No bound of a closure is above a way's length. -/
theorem closed_lst {n : Nat} {M C : Mat} (c : Closed n M C) : ∀ (f : Nat) (S : Nat → Bool) (u t : Nat), u < n → t < n → le (C u t) (lst n M f S u t)
  | 0, _, u, t, hu, ht => c.le u t hu ht
  | f + 1, S, u, t, hu, ht => scan_glb (c.le u t hu ht) n (fun k hk _ _ => le_trans (c.tri u t k hu ht hk) (add_mono (c.le u k hu hk) (closed_lst c f _ k t hk ht)))

/-- Heights that meet each bound. -/
def Sol (n : Nat) (s : Nat → Bd) (M : Mat) : Prop := ∀ i k, i < n → k < n → le (s i) (add (M i k) (s k))
theorem sol_fw {n k : Nat} {s : Nat → Bd} {M : Mat} (hk : k < n) (h : Sol n s M) : Sol n s (fw k M) := by
  intro i j hi hj
  unfold fw low
  split
  · rw [add_assoc]
    exact le_trans (h i k hi hk) (add_mono (le_refl _) (h k j hk hj))
  · exact h i j hi hj
theorem sol_dia {n : Nat} {s : Nat → Bd} {M : Mat} (h : Sol n s M) : Sol n s (dia M) := by
  intro i j hi hj
  unfold dia
  split
  · rename_i e; subst e; rw [zero_add]; exact le_refl _
  · exact h i j hi hj
def Sols (n : Nat) (s : Nat → Nat → Bd) (M : Mat) : Prop := ∀ j, j < n → s j j = some 0 ∧ Sol n (s j) M
theorem sols_odd {n : Nat} {s : Nat → Nat → Bd} {M : Mat} (h : Sols n s M) : ¬ oddB n M = true := by
  intro o
  obtain ⟨i, hi, hn⟩ := (oddB_iff n M).1 o
  obtain ⟨e, a⟩ := h i hi
  have q := a i i hi hi
  rw [e, add_zero] at q
  cases hx : M i i <;> simp [le, neg, hx] at *; omega
theorem sols_phases {n : Nat} {s : Nat → Nat → Bd} {M : Mat} (h : Sols n s M) : ∀ k, k ≤ n → ∃ M', phases n k M = some M' ∧ Sols n s M'
  | 0, _ => ⟨M, rfl, h⟩
  | k + 1, hk => by
    obtain ⟨M', e, q⟩ := sols_phases h k (by omega)
    refine ⟨fw k (dia M'), ?_, fun j hj => ⟨(q j hj).1, sol_fw (by omega) (sol_dia (q j hj).2)⟩⟩
    simp only [phases, e]
    rw [if_neg (sols_odd q)]
theorem sols_closed {n : Nat} {s : Nat → Nat → Bd} {M : Mat} (h : Sols n s M) : ∃ C, closed n M = some C ∧ Sols n s C := by
  obtain ⟨C, e, q⟩ := sols_phases h n (Nat.le_refl n)
  refine ⟨C, ?_, q⟩
  simp only [closed, e]
  rw [if_neg (sols_odd q)]
/-- The lengths of ways to one are heights. -/
theorem way_sol {n : Nat} {M : Mat} (h : ∀ i, i < n → le (some 0) (way n M i i)) (j : Nat) (hj : j < n) : Sol n (fun i => if i = j then some 0 else way n M i j) M := by
  intro i k hi hk
  show le (if i = j then some 0 else way n M i j) (add (M i k) (if k = j then some 0 else way n M k j))
  obtain ⟨f, rfl⟩ : ∃ f, n = f + 1 := ⟨n - 1, by omega⟩
  -- a way that goes on from k, and then back to i
  have back : ∀ k, k < f + 1 → k ≠ i → le (some 0) (add (M i k) (lst (f + 1) M f (meet (meet (fun _ => false) i) k) k i)) := fun k hk e =>
    le_trans (h i hi) (lst_at (f + 1) M f _ i i k hk (by unfold meet; rw [if_neg e]) e)
  by_cases ei : i = j
  · subst ei
    rw [if_pos rfl]
    by_cases ek : k = i
    · subst ek
      rw [if_pos rfl, add_zero]
      exact le_trans (h k hk) (lst_le _ _ _ _ _ _)
    · rw [if_neg ek]
      refine le_trans (back k hk ek) (add_mono (le_refl _) ?_)
      -- the end is met or not
      have c := cnt_one k (f + 1) hk
      have e := lst_full (f + 1) M f (meet (fun _ => false) k) k i (by omega)
      show le _ (lst (f + 1) M (f + 1) (meet (fun _ => false) k) k i)
      rw [e]
      refine le_trans (lst_mono _ _ _ _ (meet (meet (fun _ => false) k) i) _ _ (fun m _ e => ?_)) (lst_end _ _ _ _ _ _)
      unfold meet at e ⊢; split <;> simp_all
  · rw [if_neg ei]
    by_cases ek : k = j
    · subst ek
      rw [if_pos rfl, add_zero]
      exact lst_le _ _ _ _ _ _
    · rw [if_neg ek]
      by_cases e : k = i
      · subst e
        have q := le_trans (h k hk) (lst_le (f + 1) M (f + 1) (meet (fun _ => false) k) k k)
        have q := add_mono q (le_refl (way (f + 1) M k j))
        rw [zero_add] at q
        exact q
      · have c := cnt_one k (f + 1) hk
        have full := lst_full (f + 1) M f (meet (fun _ => false) k) k j (by omega)
        have a1 := lst_at (f + 1) M f (meet (fun _ => false) i) i j k hk (by unfold meet; rw [if_neg e]) ek
        have com : ∀ m, m < f + 1 → meet (meet (fun _ => false) i) k m = true → meet (meet (fun _ => false) k) i m = true := by
          intro m _ e; unfold meet at e ⊢; split <;> simp_all
        have com2 : ∀ m, m < f + 1 → meet (meet (fun _ => false) k) i m = true → meet (meet (fun _ => false) i) k m = true := by
          intro m _ e; unfold meet at e ⊢; split <;> simp_all
        have b := back k hk e
        have en := lst_end (f + 1) M f (meet (fun _ => false) k) k i
        have b := le_trans b (add_mono (le_refl (M i k)) (le_trans (lst_mono (f + 1) M f _ _ k i com) en))
        show le (lst (f + 1) M (f + 1) (meet (fun _ => false) i) i j) (add (M i k) (lst (f + 1) M (f + 1) (meet (fun _ => false) k) k j))
        rw [full]
        -- split the way from k at i
        have m1 := lst_mono (f + 1) M f _ _ k j com
        have m2 : le (lst (f + 1) M (f + 1) (meet (fun _ => false) i) i j) (lst (f + 1) M f (meet (meet (fun _ => false) k) i) i j) :=
          le_trans (lst_more _ _ _ _ _ _) (lst_mono (f + 1) M f _ _ i j (fun m _ e => by unfold meet at e ⊢; split <;> simp_all))
        generalize lst (f + 1) M (f + 1) (meet (fun _ => false) i) i j = W at a1 m2 ⊢
        cases hx : M i k with
        | none => simp only [add]; cases W <;> trivial
        | some x =>
          rw [hx] at a1 b
          cases W with
          | none =>
            have q := lst_split (f + 1) M f (meet (fun _ => false) k) k j i none
              (by have := le_trans m1 (le_refl _)
                  cases hy : lst (f + 1) M f (meet (meet (fun _ => false) k) i) k j with
                  | none => trivial
                  | some y =>
                    have m1' := lst_mono (f + 1) M f _ _ k j com
                    rw [hy] at m1'
                    cases hz : lst (f + 1) M f (meet (meet (fun _ => false) i) k) k j with
                    | none => rw [hz] at m1'; exact m1'
                    | some z => rw [hz] at a1; exact a1)
              (by cases hy : lst (f + 1) M f (meet (fun _ => false) k) k i with
                  | none => trivial
                  | some y =>
                    cases hz : lst (f + 1) M f (meet (meet (fun _ => false) k) i) i j with
                    | none => trivial
                    | some z => rw [hz] at m2; exact m2)
            cases hy : lst (f + 1) M f (meet (fun _ => false) k) k j with
            | none => trivial
            | some y => rw [hy] at q; exact q
          | some W =>
            have q := lst_split (f + 1) M f (meet (fun _ => false) k) k j i (some (W - x))
              (by cases hy : lst (f + 1) M f (meet (meet (fun _ => false) k) i) k j with
                  | none => trivial
                  | some y =>
                    rw [hy] at m1
                    cases hz : lst (f + 1) M f (meet (meet (fun _ => false) i) k) k j with
                    | none => rw [hz] at m1; exact absurd m1 (by simp [le])
                    | some z => rw [hz] at a1 m1; simp only [add, le] at a1 m1 ⊢; omega)
              (by cases hy : lst (f + 1) M f (meet (fun _ => false) k) k i with
                  | none => trivial
                  | some y =>
                    cases hz : lst (f + 1) M f (meet (meet (fun _ => false) k) i) i j with
                    | none => trivial
                    | some z => rw [hz] at m2; rw [hy] at b; simp only [add, le] at b m2 ⊢; omega)
            cases hy : lst (f + 1) M f (meet (fun _ => false) k) k j with
            | none => trivial
            | some y => rw [hy] at q; simp only [add, le] at q ⊢; omega
theorem le_anti {a b : Bd} (h : le a b) (k : le b a) : a = b := by
  cases a <;> cases b <;> simp [le] at * <;> omega
/-- All ways tell what the phases tell. -/
theorem way_closed {n : Nat} {M : Mat} (h : ∀ i, i < n → neg (way n M i i) = false) : ∃ C, closed n M = some C ∧ ∀ i j, i < n → j < n → C i j = if i = j then some 0 else way n M i j := by
  have h' : ∀ i, i < n → le (some 0) (way n M i i) := by
    intro i hi
    have := h i hi
    cases hx : way n M i i <;> simp [le, neg, hx] at *; omega
  obtain ⟨C, e, q⟩ := sols_closed (s := fun j i => if i = j then some 0 else way n M i j) (M := M) (n := n) (fun j hj => ⟨if_pos rfl, way_sol h' j hj⟩)
  have c := closed_is e
  refine ⟨C, e, fun i j hi hj => ?_⟩
  by_cases ij : i = j
  · subst ij; rw [if_pos rfl]; exact c.dia i hi
  · rw [if_neg ij]
    refine le_anti (closed_lst c _ _ i j hi hj) ?_
    have z := (q j hj).2 i j hi hj
    simp only [if_neg ij, if_true, add_zero] at z
    exact z
theorem way_odd {n : Nat} {M : Mat} {i : Nat} (hi : i < n) (h : neg (way n M i i) = true) : closed n M = none := by
  cases e : closed n M with
  | none => rfl
  | some C =>
    exfalso
    have c := closed_is e
    have q := closed_lst c n (meet (fun _ => false) i) i i hi hi
    rw [c.dia i hi] at q
    unfold way at h
    revert q h
    cases lst n M n (meet (fun _ => false) i) i i <;> simp [le, neg]
end Go.Proofs.Ytnhbinghinlhgaa
