/- Networks of bounds, plainly: closures phase by phase; what holds in a network holds in its closure; no bound of a closure is above a sum of two. -/
namespace Go.Proofs.Ytnhbinghinlhgaa
set_option linter.unusedVariables false
/-- A bound: a number, or none. -/
abbrev Bd := Option Int
abbrev Mat := Nat → Nat → Bd
namespace Bd
def add : Bd → Bd → Bd
  | some a, some b => some (a + b)
  | _, _ => none
/-- Is a bound below another one? -/
def lt : Bd → Bd → Bool
  | some a, some b => decide (a < b)
  | some _, none => true
  | none, _ => false
def le : Bd → Bd → Prop
  | some a, some b => a ≤ b
  | none, some _ => False
  | _, none => True
def low (x s : Bd) : Bd := if lt s x = true then s else x
def neg : Bd → Bool
  | some a => decide (a < 0)
  | none => false
/-- No number beyond B. -/
def within (B : Int) : Bd → Prop
  | some a => -B ≤ a ∧ a ≤ B
  | none => True
theorem le_refl (a : Bd) : le a a := by cases a <;> simp [le]
theorem le_trans {a b c : Bd} (h : le a b) (k : le b c) : le a c := by
  cases a <;> cases b <;> cases c <;> simp [le] at * <;> omega
theorem low_le_left (x s : Bd) : le (low x s) x := by
  unfold low; split
  · rename_i h
    cases x <;> cases s <;> simp [lt, le] at * <;> omega
  · exact le_refl _
theorem low_le_right (x s : Bd) : le (low x s) s := by
  unfold low; split
  · exact le_refl _
  · rename_i h
    cases x <;> cases s <;> simp [lt, le] at * <;> omega
theorem le_low {c x s : Bd} (h : le c x) (k : le c s) : le c (low x s) := by
  unfold low; split <;> assumption
theorem add_mono {a b c d : Bd} (h : le a c) (k : le b d) : le (add a b) (add c d) := by
  cases a <;> cases b <;> cases c <;> cases d <;> simp [le, add] at * <;> omega
theorem add_assoc (a b c : Bd) : add (add a b) c = add a (add b c) := by
  cases a <;> cases b <;> cases c <;> simp [add]; omega
theorem add_zero (a : Bd) : add a (some 0) = a := by cases a <;> simp [add]
theorem zero_add (a : Bd) : add (some 0) a = a := by cases a <;> simp [add]
theorem low_self (a : Bd) : low a a = a := by unfold low; split <;> rfl
theorem neg_lt {a : Bd} : neg a = lt a (some 0) := by cases a <;> rfl
theorem le_add_of {x a b c d : Bd} (h : le x (add c d)) (k : le c a) (l : le d b) : le x (add a b) := le_trans h (add_mono k l)
theorem within_mono {B C : Int} (h : B ≤ C) {a : Bd} (k : within B a) : within C a := by
  cases a <;> simp [within] at *; omega
theorem within_add {B : Int} {a b : Bd} (h : within B a) (k : within B b) : within (2 * B) (add a b) := by
  cases a <;> cases b <;> simp [within, add] at *; omega
theorem within_low {B : Int} {a b : Bd} (h : within B a) (k : within B b) : within B (low a b) := by
  unfold low; split <;> assumption
end Bd
open Bd

/-- A phase. -/
def fw (k : Nat) (M : Mat) : Mat := fun i j => low (M i j) (add (M i k) (M k j))
def dia (M : Mat) : Mat := fun i j => if i = j then some 0 else M i j
def odd (n : Nat) (M : Mat) : Prop := ∃ i, i < n ∧ neg (M i i) = true
def oddB : Nat → Mat → Bool
  | 0, _ => false
  | n + 1, M => oddB n M || neg (M n n)
theorem oddB_iff (n : Nat) (M : Mat) : oddB n M = true ↔ odd n M := by
  induction n with
  | zero => simp [oddB, odd]
  | succ n ih =>
    simp only [oddB, Bool.or_eq_true, ih]
    constructor
    · rintro (⟨i, hi, h⟩ | h)
      · exact ⟨i, by omega, h⟩
      · exact ⟨n, by omega, h⟩
    · rintro ⟨i, hi, h⟩
      by_cases c : i = n
      · subst c; exact .inr h
      · exact .inl ⟨i, by omega, h⟩
/-- What becomes of a network in k phases. -/
def phases (n : Nat) : Nat → Mat → Option Mat
  | 0, M => some M
  | k + 1, M => match phases n k M with
    | none => none
    | some M' => if oddB n M' = true then none else some (fw k (dia M'))
/-- The closure, if there is one. -/
def closed (n : Nat) (M : Mat) : Option Mat := match phases n n M with
  | none => none
  | some M' => if oddB n M' = true then none else some M'

def Sat (n : Nat) (t : Nat → Int) (M : Mat) : Prop := ∀ i j, i < n → j < n → le (some (t j - t i)) (M i j)

theorem sat_fw {n k : Nat} {t : Nat → Int} {M : Mat} (hk : k < n) (h : Sat n t M) : Sat n t (fw k M) := by
  intro i j hi hj
  refine le_low (h i j hi hj) ?_
  have a := h i k hi hk
  have b := h k j hk hj
  cases hx : M i k <;> cases hy : M k j <;> simp [le, add, hx, hy] at *; omega
theorem sat_dia {n : Nat} {t : Nat → Int} {M : Mat} (h : Sat n t M) : Sat n t (dia M) := by
  intro i j hi hj
  unfold dia
  split
  · rename_i e; subst e; simp [le]
  · exact h i j hi hj
theorem sat_odd {n : Nat} {t : Nat → Int} {M : Mat} (h : Sat n t M) : ¬ odd n M := by
  rintro ⟨i, hi, hn⟩
  have a := h i i hi hi
  cases hx : M i i <;> simp [le, neg, hx] at *; omega
theorem sat_phases {n : Nat} {t : Nat → Int} {M : Mat} (h : Sat n t M) (k : Nat) (hk : k ≤ n) : ∃ M', phases n k M = some M' ∧ Sat n t M' := by
  induction k with
  | zero => exact ⟨M, rfl, h⟩
  | succ k ih =>
    obtain ⟨M', e, s⟩ := ih (by omega)
    refine ⟨fw k (dia M'), ?_, sat_fw (by omega) (sat_dia s)⟩
    simp only [phases, e]
    rw [if_neg (fun c => sat_odd s ((oddB_iff n M').1 c))]
/-- Ticks that hold in a network hold in its closure, which is there. -/
theorem sat_closed {n : Nat} {t : Nat → Int} {M : Mat} (h : Sat n t M) : ∃ M', closed n M = some M' ∧ Sat n t M' := by
  obtain ⟨M', e, s⟩ := sat_phases h n (Nat.le_refl n)
  refine ⟨M', ?_, s⟩
  simp only [closed, e]
  rw [if_neg (fun c => sat_odd s ((oddB_iff n M').1 c))]

/-- Pointwise. -/
def Le (n : Nat) (M N : Mat) : Prop := ∀ i j, i < n → j < n → le (M i j) (N i j)
theorem Le.trans {n : Nat} {A B C : Mat} (h : Le n A B) (k : Le n B C) : Le n A C := fun i j hi hj => le_trans (h i j hi hj) (k i j hi hj)
theorem Le.refl (n : Nat) (A : Mat) : Le n A A := fun i j _ _ => le_refl _
theorem sat_le {n : Nat} {t : Nat → Int} {M N : Mat} (h : Sat n t M) (k : Le n M N) : Sat n t N := fun i j hi hj => le_trans (h i j hi hj) (k i j hi hj)
theorem not_odd_le {M : Mat} {n i : Nat} (h : ¬ odd n M) (hi : i < n) : le (some 0) (M i i) := by
  have : ¬ neg (M i i) = true := fun c => h ⟨i, hi, c⟩
  cases hx : M i i <;> simp [le, neg, hx] at *; omega
theorem dia_le {n : Nat} {M : Mat} (h : ¬ odd n M) : Le n (dia M) M := by
  intro i j hi hj
  unfold dia
  split
  · rename_i e; subst e; exact not_odd_le h hi
  · exact le_refl _
theorem fw_le (n k : Nat) (M : Mat) : Le n (fw k M) M := fun i j _ _ => low_le_left _ _
theorem phases_le {n : Nat} {M : Mat} : ∀ (k : Nat) (M' : Mat), phases n k M = some M' → Le n M' M
  | 0, M', h => by cases h; exact Le.refl _ _
  | k + 1, M', h => by
    simp only [phases] at h
    split at h
    · cases h
    · rename_i N e
      split at h
      · cases h
      · rename_i o
        cases h
        exact (fw_le n k _).trans ((dia_le (fun c => o ((oddB_iff n N).2 c))).trans (phases_le k N e))

/-- No bound above the sum of two along one of the first k. -/
def Tri (n k : Nat) (M : Mat) : Prop := ∀ i j m, i < n → j < n → m < k → le (M i j) (add (M i m) (M m j))
theorem tri_dia {n k : Nat} {M : Mat} (hk : k ≤ n) (o : ¬ odd n M) (h : Tri n k M) : Tri n k (dia M) := by
  intro i j m hi hj hm
  by_cases e1 : i = m
  · subst e1
    rw [show dia M i i = some 0 from if_pos rfl, zero_add]; exact le_refl _
  · by_cases e2 : m = j
    · subst e2
      rw [show dia M m m = some 0 from if_pos rfl, add_zero]; exact le_refl _
    · rw [show dia M i m = M i m from if_neg e1, show dia M m j = M m j from if_neg e2]
      exact le_trans (dia_le o i j hi hj) (h i j m hi hj hm)
theorem tri_fw {n k : Nat} {M : Mat} (hk : k < n) (d : M k k = some 0) (h : Tri n k M) : Tri n (k + 1) (fw k M) := by
  have c1 : ∀ i, fw k M i k = M i k := fun i => by unfold fw; rw [d, add_zero, low_self]
  have c2 : ∀ j, fw k M k j = M k j := fun j => by unfold fw; rw [d, zero_add, low_self]
  intro i j m hi hj hm
  by_cases e : m = k
  · subst e
    rw [c1, c2]
    exact low_le_right _ _
  · have hm' : m < k := by omega
    have hm'' : m < n := by omega
    -- each of the two sums' four ways
    have base : ∀ x y, (x = M i m ∨ x = add (M i k) (M k m)) → (y = M m j ∨ y = add (M m k) (M k j)) → le (fw k M i j) (add x y) := by
      rintro x y (rfl | rfl) (rfl | rfl)
      · exact le_trans (low_le_left _ _) (h i j m hi hj hm')
      · refine le_trans (low_le_right _ _) ?_
        rw [← add_assoc]
        exact add_mono (h i k m hi hk hm') (le_refl _)
      · refine le_trans (low_le_right _ _) ?_
        rw [add_assoc]
        exact add_mono (le_refl _) (h k j m hk hj hm')
      · refine le_trans (low_le_right _ _) ?_
        have z := h k k m hk hk hm'
        rw [d] at z
        rw [add_assoc, ← add_assoc (M k m)]
        refine add_mono (le_refl _) ?_
        have q := add_mono z (le_refl (M k j))
        rw [zero_add] at q
        exact q
    refine base _ _ ?_ ?_
    · unfold fw low; split
      · exact .inr rfl
      · exact .inl rfl
    · unfold fw low; split
      · exact .inr rfl
      · exact .inl rfl
theorem tri_phases {n : Nat} {M : Mat} : ∀ (k : Nat) (M' : Mat), k ≤ n → phases n k M = some M' → Tri n k M'
  | 0, M', _, h => fun i j m _ _ hm => absurd hm (Nat.not_lt_zero _)
  | k + 1, M', hk, h => by
    simp only [phases] at h
    split at h
    · cases h
    · rename_i N e
      split at h
      · cases h
      · rename_i o
        cases h
        have o' : ¬ odd n N := fun c => o ((oddB_iff n N).2 c)
        exact tri_fw (by omega) (if_pos rfl) (tri_dia (by omega) o' (tri_phases k N (by omega) e))

theorem diag_phases {n : Nat} {M : Mat} : ∀ (k : Nat) (M' : Mat), phases n (k + 1) M = some M' → ∀ i, i < n → le (M' i i) (some 0)
  | k, M', h, i, hi => by
    simp only [phases] at h
    split at h
    · cases h
    · rename_i N e
      split at h
      · cases h
      · cases h
        exact le_trans (low_le_left _ _) (by rw [show dia N i i = some 0 from if_pos rfl]; exact le_refl _)

/-- What a closure is. -/
structure Closed (n : Nat) (M C : Mat) : Prop where
  le : Le n C M
  tri : Tri n n C
  dia : ∀ i, i < n → C i i = some 0
theorem closed_is {n : Nat} {M C : Mat} (h : closed n M = some C) : Closed n M C := by
  simp only [closed] at h
  split at h
  · cases h
  · rename_i N e
    split at h
    · cases h
    · rename_i o
      cases h
      have o' : ¬ odd n C := fun c => o ((oddB_iff n C).2 c)
      refine ⟨phases_le n C e, tri_phases n C (Nat.le_refl n) e, fun i hi => ?_⟩
      have a := not_odd_le o' hi
      cases n with
      | zero => omega
      | succ n =>
        have b := diag_phases n C e i hi
        cases hx : C i i <;> simp [Bd.le, hx] at a b ⊢
        omega

/-- Ticks as high as the bounds above 0 let them be. -/
def lowest (C : Mat) (j : Nat) : Nat → Int
  | 0 => 0
  | m + 1 => match C m j with
    | some a => min (lowest C j m) a
    | none => lowest C j m
theorem lowest_le (C : Mat) (j : Nat) : ∀ (n m : Nat), m < n → ∀ a, C m j = some a → lowest C j n ≤ a
  | n + 1, m, h, a, e => by
    by_cases q : m = n
    · subst q; simp only [lowest, e]; omega
    · have := lowest_le C j n m (by omega) a e
      simp only [lowest]; split <;> omega
theorem lowest_zero (C : Mat) (j : Nat) : ∀ (n : Nat), lowest C j n ≤ 0
  | 0 => Int.le_refl _
  | n + 1 => by
    have := lowest_zero C j n
    simp only [lowest]; split <;> omega
theorem lowest_at (C : Mat) (j : Nat) : ∀ (n : Nat), lowest C j n = 0 ∨ ∃ m, m < n ∧ C m j = some (lowest C j n)
  | 0 => .inl rfl
  | n + 1 => by
    rcases lowest_at C j n with h | ⟨m, hm, h⟩
    · simp only [lowest]
      split
      · rename_i a e
        rcases (show min (lowest C j n) a = lowest C j n ∨ min (lowest C j n) a = a by omega) with q | q
        · exact .inl (q.trans h)
        · exact .inr ⟨n, by omega, by rw [q]; exact e⟩
      · exact .inl h
    · simp only [lowest]
      split
      · rename_i a e
        rcases (show min (lowest C j n) a = lowest C j n ∨ min (lowest C j n) a = a by omega) with q | q
        · exact .inr ⟨m, by omega, by rw [q]; exact h⟩
        · exact .inr ⟨n, by omega, by rw [q]; exact e⟩
      · exact .inr ⟨m, by omega, h⟩
theorem lowest_sat {n : Nat} {C : Mat} (h : Tri n n C) : Sat n (fun j => lowest C j n) C := by
  intro i j hi hj
  cases hx : C i j with
  | none => simp [le]
  | some a =>
    simp only [le]
    rcases lowest_at C i n with e | ⟨m, hm, e⟩
    · have := lowest_le C j n i hi a hx
      omega
    · have t := h m j i hm hj hi
      rw [e, hx] at t
      cases hy : C m j with
      | none => simp [le, add, hy] at t
      | some b =>
        simp [le, add, hy] at t
        have := lowest_le C j n m hm b hy
        omega

/-- Where no ticks hold there is no closure, and the other way about. -/
theorem closed_none {n : Nat} {M : Mat} (h : closed n M = none) (t : Nat → Int) : ¬ Sat n t M := fun s => by
  obtain ⟨M', e, _⟩ := sat_closed s
  rw [h] at e; cases e
theorem closed_some {n : Nat} {M C : Mat} (h : closed n M = some C) (t : Nat → Int) : Sat n t M ↔ Sat n t C :=
  ⟨fun s => by obtain ⟨M', e, s'⟩ := sat_closed s; rw [h] at e; cases e; exact s', fun s => sat_le s (closed_is h).le⟩

theorem closed_again {n : Nat} {M C : Mat} (h : closed n M = some C) : ∃ D, closed n C = some D ∧ ∀ i j, i < n → j < n → D i j = C i j := by
  have c := closed_is h
  obtain ⟨D, e, s⟩ := sat_closed (lowest_sat c.tri)
  refine ⟨D, e, fun i j hi hj => ?_⟩
  have d := closed_is e
  -- every bound of the closure of a closure is one of the closure: phases change nothing
  have ph : ∀ k M', k ≤ n → phases n k C = some M' → ∀ i j, i < n → j < n → M' i j = C i j := by
    intro k
    induction k with
    | zero => intro M' _ hh i j _ _; cases hh; rfl
    | succ k ih =>
      intro M' hk hh i j hi hj
      simp only [phases] at hh
      split at hh
      · cases hh
      · rename_i N eN
        split at hh
        · cases hh
        · cases hh
          have iN := ih N (by omega) eN
          have dN : ∀ a b, a < n → b < n → dia N a b = C a b := by
            intro a b ha hb
            unfold dia
            split
            · rename_i q; subst q; exact (c.dia a ha).symm
            · exact iN a b ha hb
          unfold fw
          rw [dN i j hi hj, dN i k hi (by omega), dN k j (by omega) hj]
          have t := c.tri i j k hi hj (by omega)
          unfold low
          split
          · rename_i q
            revert t q
            cases C i j <;> cases add (C i k) (C k j) <;> simp [lt, le] <;> omega
          · rfl
  simp only [closed] at e
  split at e
  · cases e
  · rename_i N eN
    split at e
    · cases e
    · cases e
      exact ph n D (Nat.le_refl n) eN i j hi hj

theorem fw_mono {n k : Nat} {A B : Mat} (hk : k < n) (h : Le n A B) : Le n (fw k A) (fw k B) := fun i j hi hj =>
  le_low (le_trans (low_le_left _ _) (h i j hi hj)) (le_trans (low_le_right _ _) (add_mono (h i k hi hk) (h k j hk hj)))
theorem dia_mono {n : Nat} {A B : Mat} (h : Le n A B) : Le n (dia A) (dia B) := by
  intro i j hi hj
  unfold dia
  split
  · exact le_refl _
  · exact h i j hi hj
theorem odd_mono {n : Nat} {A B : Mat} (h : Le n A B) (o : odd n B) : odd n A := by
  obtain ⟨i, hi, e⟩ := o
  refine ⟨i, hi, ?_⟩
  have q := h i i hi hi
  revert e q
  cases A i i <;> cases B i i <;> simp [neg, le] <;> omega
theorem phases_mono {n : Nat} {A B : Mat} (h : Le n A B) : ∀ (k : Nat) (A' : Mat), k ≤ n → phases n k A = some A' → ∃ B', phases n k B = some B' ∧ Le n A' B'
  | 0, A', _, e => by cases e; exact ⟨B, rfl, h⟩
  | k + 1, A', hk, e => by
    simp only [phases] at e
    split at e
    · cases e
    · rename_i N eN
      split at e
      · cases e
      · rename_i o
        cases e
        obtain ⟨N', e', l⟩ := phases_mono h k N (by omega) eN
        refine ⟨fw k (dia N'), ?_, fw_mono (by omega) (dia_mono l)⟩
        simp only [phases, e']
        rw [if_neg (fun c => o ((oddB_iff n N).2 (odd_mono l ((oddB_iff n N').1 c))))]
theorem closed_mono {n : Nat} {A B A' : Mat} (h : Le n A B) (e : closed n A = some A') : ∃ B', closed n B = some B' ∧ Le n A' B' := by
  simp only [closed] at e
  split at e
  · cases e
  · rename_i N eN
    split at e
    · cases e
    · rename_i o
      cases e
      obtain ⟨B', e', l⟩ := phases_mono h n A' (Nat.le_refl n) eN
      refine ⟨B', ?_, l⟩
      simp only [closed, e']
      rw [if_neg (fun c => o ((oddB_iff n A').2 (odd_mono l ((oddB_iff n B').1 c))))]

/-- A network with a bound more. -/
def put (M : Mat) (i j : Nat) (x : Bd) : Mat := fun a b => if a = i ∧ b = j then low (M i j) x else M a b
theorem put_le {n : Nat} (M : Mat) (i j : Nat) (x : Bd) : Le n (put M i j x) M := by
  intro a b _ _
  unfold put
  split
  · rename_i e; rw [e.1, e.2]; exact low_le_left _ _
  · exact le_refl _
/-- If one bound more leaves nothing, the way back says the contrary. -/
theorem put_odd {n : Nat} {M C : Mat} {i j : Nat} {x : Int} (hi : i < n) (hj : j < n) (h : closed n M = some C) (o : closed n (put M i j (some x)) = none) : ∃ a, C j i = some a ∧ a + x < 0 := by
  have c := closed_is h
  by_cases q : ∃ a, C j i = some a ∧ a + x < 0
  · exact q
  · exfalso
    let D : Mat := fun a b => low (C a b) (add (add (C a i) (some x)) (C j b))
    have z : le (some 0) (add (some x) (C j i)) := by
      cases hc : C j i with
      | none => simp [le, add]
      | some a =>
        simp only [le, add]
        have : ¬ a + x < 0 := fun w => q ⟨a, hc, w⟩
        omega
    have t : Tri n n D := by
      intro a b m ha hb hm
      have base : ∀ u v, (u = C a m ∨ u = add (add (C a i) (some x)) (C j m)) → (v = C m b ∨ v = add (add (C m i) (some x)) (C j b)) → le (D a b) (add u v) := by
        rintro u v (rfl | rfl) (rfl | rfl)
        · exact le_trans (low_le_left _ _) (c.tri a b m ha hb hm)
        · refine le_trans (low_le_right _ _) ?_
          rw [← add_assoc, ← add_assoc]
          exact add_mono (add_mono (c.tri a i m ha hi hm) (le_refl _)) (le_refl _)
        · refine le_trans (low_le_right _ _) ?_
          rw [add_assoc (add (C a i) (some x))]
          exact add_mono (le_refl _) (c.tri j b m hj hb hm)
        · refine le_trans (low_le_right _ _) ?_
          rw [add_assoc (add (C a i) (some x)), add_assoc (C m i), ← add_assoc (C j m)]
          refine add_mono (le_refl _) ?_
          refine le_trans ?_ (add_mono (c.tri j i m hj hi hm) (le_refl _))
          rw [← add_assoc]
          have w := add_mono z (le_refl (C j b))
          rw [zero_add] at w
          refine le_trans w ?_
          revert w
          cases C j i <;> cases C j b <;> simp [add, le] <;> omega
      refine base _ _ ?_ ?_
      · show low _ _ = _ ∨ low _ _ = _
        unfold low; split
        · exact .inr rfl
        · exact .inl rfl
      · show low _ _ = _ ∨ low _ _ = _
        unfold low; split
        · exact .inr rfl
        · exact .inl rfl
    refine closed_none o _ (sat_le (lowest_sat t) ?_)
    intro a b ha hb
    unfold put
    split
    · rename_i e
      obtain ⟨rfl, rfl⟩ := e
      refine le_low (le_trans (low_le_left _ _) (c.le a b ha hb)) ?_
      refine le_trans (low_le_right _ _) ?_
      rw [c.dia a ha, c.dia b hb, zero_add, add_zero]
      exact le_refl _
    · exact le_trans (low_le_left _ _) (c.le a b ha hb)
theorem closed_put {n : Nat} {M C : Mat} {i j : Nat} {x : Int} (hi : i < n) (hj : j < n) (h : closed n (put M i j (some x)) = some C) : ∃ a, C i j = some a ∧ a ≤ x := by
  have l := (closed_is h).le i j hi hj
  have e : put M i j (some x) i j = low (M i j) (some x) := if_pos ⟨rfl, rfl⟩
  rw [e] at l
  have l := le_trans l (low_le_right _ _)
  cases hc : C i j with
  | none => simp [le, hc] at l
  | some a => exact ⟨a, rfl, by simpa [le, hc] using l⟩

/-- No number of a phase is more than twice what was ahead. -/
def Within (n : Nat) (B : Int) (M : Mat) : Prop := ∀ i j, i < n → j < n → within B (M i j)
theorem within_fw {n k : Nat} {B : Int} {M : Mat} (hB : 0 ≤ B) (hk : k < n) (h : Within n B M) : Within n (2 * B) (fw k M) := fun i j hi hj =>
  within_low (within_mono (by omega) (h i j hi hj)) (within_add (h i k hi hk) (h k j hk hj))
theorem within_dia {n : Nat} {B : Int} {M : Mat} (hB : 0 ≤ B) (h : Within n B M) : Within n B (dia M) := by
  intro i j hi hj
  unfold dia
  split
  · simp [within]; omega
  · exact h i j hi hj
theorem within_phases {n : Nat} {B : Int} {M : Mat} (hB : 0 ≤ B) (h : Within n B M) : ∀ (k : Nat) (M' : Mat), k ≤ n → phases n k M = some M' → Within n (2 ^ k * B) M'
  | 0, M', _, e => by cases e; simpa using h
  | k + 1, M', hk, e => by
    simp only [phases] at e
    split at e
    · cases e
    · rename_i N eN
      split at e
      · cases e
      · cases e
        have p : 0 ≤ 2 ^ k * B := Int.mul_nonneg (Int.le_of_lt (Int.pow_pos (by decide))) hB
        have w := within_fw p (by omega : k < n) (within_dia p (within_phases hB h k N (by omega) eN))
        rw [show (2 : Int) ^ (k + 1) * B = 2 * (2 ^ k * B) by rw [Int.pow_succ]; rw [Int.mul_comm (2 ^ k) 2, Int.mul_assoc]]
        exact w
end Go.Proofs.Ytnhbinghinlhgaa
