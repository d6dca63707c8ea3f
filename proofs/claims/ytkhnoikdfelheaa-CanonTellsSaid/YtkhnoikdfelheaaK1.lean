/- Plainly: turns of a core. -/
import Derived.Test.YtkhnoikdfelheaaG20
namespace Go.Proofs.Ytkhnoikdfelheaa
set_option linter.unusedVariables false
set_option linter.unusedSimpArgs false
open Go.ChangeShapes Go.WideShapes Go.ChangeAt Go.RowKit
/-- The core has as many sets as it counts. -/
def Full (cs : List (List Sp)) (N : Int) : Prop := 0 < N ∧ N = cs.length
theorem cg_in {cs : List (List Sp)} {P N i : Int} (h : Full cs N) : cg cs P N i = moved (cset cs N i) (P * i.fdiv N) := by unfold cg; exact if_pos h
theorem cg_out {cs : List (List Sp)} {P N i : Int} (h : ¬ Full cs N) : cg cs P N i = [] := by unfold cg; exact if_neg h
theorem moved_moved (l : List Sp) (a b : Int) : moved (moved l a) b = moved l (a + b) := by
  unfold moved
  rw [List.map_map]
  apply List.map_congr_left
  intro s _
  simp only [Function.comp, Prod.mk.injEq]
  omega
theorem moved_zero (l : List Sp) : moved l 0 = l := by unfold moved; simp
theorem moved_inj {l k : List Sp} {d : Int} (h : moved l d = moved k d) : l = k := by
  have := congrArg (fun x => moved x (-d)) h
  simp only [moved_back] at this
  exact this
theorem moved_far {l : List Sp} (h : l ≠ []) {a b : Int} (e : moved l a = moved l b) : a = b := by
  cases l with
  | nil => exact absurd rfl h
  | cons s r =>
    rw [moved_cons, moved_cons] at e
    have := (List.cons.inj e).1
    simp only [Prod.mk.injEq] at this
    omega
theorem moved_ne {l : List Sp} {d : Int} : moved l d ≠ [] ↔ l ≠ [] := by
  unfold moved; simp
theorem cg_next {cs : List (List Sp)} {P N k : Int} (h : Full cs N) : cg cs P N (k + N) = moved (cg cs P N k) P := by
  rw [cg_in h, cg_in h, moved_moved]
  have h0 := h.1
  have h1 : (k + N).fmod N = k.fmod N := Int.add_fmod_right k N
  have h2 : (k + N).fdiv N = k.fdiv N + 1 := by
    have e1 := fmod_eq k N
    have e2 := fmod_eq (k + N) N
    rw [h1] at e2
    have : N * (k + N).fdiv N = N * (k.fdiv N + 1) := by rw [Int.mul_add, Int.mul_one]; omega
    exact Int.eq_of_mul_eq_mul_left (by omega) this
  unfold cset
  rw [h1, h2, Int.mul_add, Int.mul_one]
/-- A sequence that goes on by d sets goes on by any number of them. -/
theorem seq_iter {S : Int → List Sp} {d p : Int} (h : ∀ i, S (i + d) = moved (S i) p) : ∀ (q i : Int), S (i + d * q) = moved (S i) (p * q) := by
  have up : ∀ (n : Nat) (i : Int), S (i + d * (n : Int)) = moved (S i) (p * (n : Int)) := by
    intro n
    induction n with
    | zero => intro i; simp [moved_zero]
    | succ n ih =>
      intro i
      have e : i + d * ((n + 1 : Nat) : Int) = i + d * (n : Int) + d := by rw [Int.natCast_add, Int.mul_add]; simp; omega
      rw [e, h, ih, moved_moved]
      congr 1
      rw [Int.natCast_add, Int.mul_add]; simp
  intro q i
  rcases Int.le_total 0 q with z | z
  · have := up q.toNat i
    rwa [show ((q.toNat : Nat) : Int) = q by omega] at this
  · have := up (-q).toNat (i + d * q)
    rw [show (((-q).toNat : Nat) : Int) = -q by omega] at this
    have e : i + d * q + d * -q = i := by rw [Int.mul_neg]; omega
    rw [e] at this
    have h2 := congrArg (fun x => moved x (p * q)) this
    simp only [moved_moved] at h2
    rw [h2, show p * -q + p * q = 0 by rw [Int.mul_neg]; omega, moved_zero]
theorem cg_nexts {cs : List (List Sp)} {P N : Int} (h : Full cs N) (q k : Int) : cg cs P N (k + N * q) = moved (cg cs P N k) (P * q) := seq_iter (S := cg cs P N) (fun i => cg_next h) q k
theorem cg_nat {cs : List (List Sp)} {P N : Int} (h : Full cs N) {i : Nat} (hi : i < cs.length) : cg cs P N (i : Int) = cs[i] := by
  rw [cg_in h]
  obtain ⟨h0, h1⟩ := h
  have e1 : (i : Int).fmod N = i := by rw [Int.fmod_eq_emod_of_nonneg _ (by omega), Int.emod_eq_of_lt (by omega) (by omega)]
  have e2 : (i : Int).fdiv N = 0 := by
    have := fmod_eq (i : Int) N
    rw [e1] at this
    have h3 : N * (i : Int).fdiv N = N * 0 := by omega
    exact Int.eq_of_mul_eq_mul_left (by omega) h3
  unfold cset
  rw [e1, e2, Int.mul_zero, moved_zero, Int.toNat_natCast, List.getD_eq_getElem?_getD, List.getElem?_eq_getElem hi]
  rfl
/-- An index as a place in the core and so many turns. -/
theorem cg_split {cs : List (List Sp)} {P N : Int} (h : Full cs N) (i : Int) : ∃ (r : Nat) (q : Int) (hr : r < cs.length), i = r + N * q ∧ cg cs P N i = moved cs[r] (P * q) := by
  obtain ⟨h0, h1⟩ := fmod_nat i h.1
  have hr : (i.fmod N).toNat < cs.length := by have := h.2; omega
  refine ⟨(i.fmod N).toNat, i.fdiv N, hr, ?_, ?_⟩
  · have := fmod_eq i N; omega
  · have e : i = ((i.fmod N).toNat : Int) + N * i.fdiv N := by have := fmod_eq i N; omega
    have q := cg_nexts (P := P) h (i.fdiv N) ((i.fmod N).toNat : Int)
    rw [← e] at q
    rw [q, cg_nat h hr]
/-- d sets are a turn. -/
structure TurnOk (cs : List (List Sp)) (P N : Int) (d : Nat) : Prop where
  pos : 0 < d
  div : (d : Int) ∣ N
  per : N ∣ P * d
  go : ∀ i : Int, cg cs P N (i + d) = moved (cg cs P N i) (P * d / N)
/-- A turn is seen at the places of the core. -/
theorem turn_of {cs : List (List Sp)} {P N : Int} {d : Nat} (h : Full cs N) (h1 : 0 < d) (h2 : (d : Int) ∣ N) (h3 : N ∣ P * d) (hg : ∀ i : Nat, i < cs.length → cg cs P N ((i : Int) + d) = moved (cg cs P N (i : Int)) (P * d / N)) : TurnOk cs P N d := by
  refine ⟨h1, h2, h3, fun i => ?_⟩
  obtain ⟨r, q, hr, e, _⟩ := cg_split (P := P) h i
  have a := cg_nexts (P := P) h q ((r : Int) + d)
  have b := cg_nexts (P := P) h q (r : Int)
  rw [e, show (r : Int) + N * q + d = r + d + N * q by omega, a, b, hg r hr, moved_moved, moved_moved, Int.add_comm]
/-- What is looked at: a place of the core, and the one d further, which may lie in the next turn. -/
theorem turn_at {cs : List (List Sp)} {P N by_ : Int} {d : Nat} (h : Full cs N) {i : Nat} (hi : i < cs.length) (hd : d ≤ cs.length) : cg cs P N ((i : Int) + d) = moved (cg cs P N (i : Int)) by_ ↔ (∃ h : i + d < cs.length, moved cs[i] by_ = cs[i + d]) ∨ (cs.length ≤ i + d ∧ ∃ h : i + d - cs.length < cs.length, moved cs[i] (by_ - P) = cs[i + d - cs.length]) := by
  rw [cg_nat h hi]
  by_cases q : i + d < cs.length
  · have e : cg cs P N ((i : Int) + d) = cs[i + d] := by
      have := cg_nat (P := P) h q
      rwa [Int.natCast_add] at this
    rw [e]
    constructor
    · intro z; exact .inl ⟨q, z.symm⟩
    · rintro (⟨_, z⟩ | ⟨z, _⟩)
      · exact z.symm
      · omega
  · have q2 : i + d - cs.length < cs.length := by omega
    have e : cg cs P N ((i : Int) + d) = moved cs[i + d - cs.length] P := by
      have a := cg_next (P := P) h (k := ((i + d - cs.length : Nat) : Int))
      rw [cg_nat h q2] at a
      rw [← a]
      congr 1
      have := h.2
      omega
    rw [e]
    have k : moved cs[i + d - cs.length] P = moved cs[i] by_ ↔ moved cs[i] (by_ - P) = cs[i + d - cs.length] := by
      constructor
      · intro z
        have z2 := congrArg (fun x => moved x (-P)) z
        simp only [moved_moved] at z2
        rw [show P + -P = 0 by omega, moved_zero] at z2
        rw [z2, show by_ - P = by_ + -P by omega]
      · intro z
        rw [← z, moved_moved, show by_ - P + P = by_ by omega]
    rw [k]
    constructor
    · intro z; exact .inr ⟨by omega, q2, z⟩
    · rintro (⟨z, _⟩ | ⟨_, _, z⟩)
      · omega
      · exact z
theorem turn_all {cs : List (List Sp)} {P N : Int} (h : Full cs N) : TurnOk cs P N cs.length := by
  have e := h.2
  refine ⟨by have := h.1; omega, by rw [e]; exact Int.dvd_refl _, by rw [← e]; exact Int.dvd_mul_left _ _, fun i => ?_⟩
  rw [← e, Int.mul_ediv_cancel _ (by have := h.1; omega)]
  exact cg_next h
/-- The least turn; 0 if the core has no granule. -/
def IsTurn (cs : List (List Sp)) (P N : Int) (d : Nat) : Prop := (d = 0 ∧ ∀ l ∈ cs, l = []) ∨ ((∃ l ∈ cs, l ≠ []) ∧ TurnOk cs P N d ∧ ∀ e, TurnOk cs P N e → d ≤ e)
theorem isTurn_ex {cs : List (List Sp)} {P N : Int} (h : Full cs N ∨ cs = []) : ∃ d, IsTurn cs P N d := by
  by_cases q : ∃ l ∈ cs, l ≠ []
  · rcases h with h | h
    · have : ∃ n, ∃ d, TurnOk cs P N d ∧ d ≤ n := ⟨_, _, turn_all h, Nat.le_refl _⟩
      have key : ∀ n, (∃ d, TurnOk cs P N d ∧ d ≤ n) → ∃ d, TurnOk cs P N d ∧ ∀ e, TurnOk cs P N e → d ≤ e := by
        intro n
        induction n with
        | zero => rintro ⟨d, a, b⟩; have := a.pos; omega
        | succ n ih =>
          rintro ⟨d, a, b⟩
          by_cases z : ∃ d, TurnOk cs P N d ∧ d ≤ n
          · exact ih z
          · refine ⟨d, a, fun e he => ?_⟩
            rcases Nat.lt_or_ge n e with y | y
            · omega
            · exact absurd ⟨e, he, y⟩ z
      obtain ⟨n, hn⟩ := this
      obtain ⟨d, a, b⟩ := key n hn
      exact ⟨d, .inr ⟨q, a, b⟩⟩
    · subst h
      obtain ⟨l, hl, _⟩ := q
      cases hl
  · refine ⟨0, .inl ⟨rfl, fun l hl => ?_⟩⟩
    by_cases z : l = []
    · exact z
    · exact absurd ⟨l, hl, z⟩ q
theorem isTurn_unique {cs : List (List Sp)} {P N : Int} {d e : Nat} (h1 : IsTurn cs P N d) (h2 : IsTurn cs P N e) : d = e := by
  rcases h1 with ⟨a, b⟩ | ⟨⟨l, hl, hn⟩, a, b⟩
  · rcases h2 with ⟨c, _⟩ | ⟨⟨l, hl, hn⟩, _⟩
    · omega
    · exact absurd (b l hl) hn
  · rcases h2 with ⟨_, c⟩ | ⟨_, c1, c2⟩
    · exact absurd (c l hl) hn
    · have := b e c1; have := c2 d a; omega
theorem cg_bare {cs : List (List Sp)} {P N : Int} (h : ∀ l ∈ cs, l = []) (i : Int) : cg cs P N i = [] := by
  by_cases f : Full cs N
  · obtain ⟨r, q, hr, _, e⟩ := cg_split (P := P) f i
    rw [e, h _ (List.getElem_mem hr)]; rfl
  · exact cg_out f
/-- The period of a turn. -/
def canP (P N : Int) (d : Nat) : Int := if d = 0 then 0 else P * d / N
theorem turn_le {cs : List (List Sp)} {P N : Int} {d : Nat} (h : Full cs N) (t : TurnOk cs P N d) : d ≤ cs.length := by
  have h0 := h.1
  have := Int.le_of_dvd h0 t.div
  have := h.2
  omega
theorem take_full {cs : List (List Sp)} {P N : Int} {d : Nat} (h : Full cs N) (t : TurnOk cs P N d) : Full (cs.take d) (d : Int) := by
  have := turn_le h t
  have := t.pos
  exact ⟨by omega, by rw [List.length_take, Nat.min_eq_left (by omega)]⟩
/-- A core of one turn has the same sets. -/
theorem can_core {cs : List (List Sp)} {P N : Int} {d : Nat} (h : Full cs N ∨ cs = []) (t : IsTurn cs P N d) (i : Int) : cg (cs.take d) (canP P N d) (d : Int) i = cg cs P N i := by
  rcases t with ⟨rfl, b⟩ | ⟨⟨l, hl, hn⟩, t, _⟩
  · rw [cg_bare b, cg_out (fun z => by have := z.1; omega)]
  · have f : Full cs N := by
      rcases h with f | rfl
      · exact f
      · cases hl
    have f2 := take_full f t
    obtain ⟨r, q, hr, e, c⟩ := cg_split (P := canP P N d) f2 i
    rw [c, e]
    have hr2 : r < cs.length := by rw [List.length_take] at hr; omega
    have a := seq_iter (S := cg cs P N) t.go q (r : Int)
    rw [a, cg_nat f hr2]
    have hd : d ≠ 0 := by have := t.pos; omega
    unfold canP
    rw [if_neg hd, List.getElem_take]
end Go.Proofs.Ytkhnoikdfelheaa
