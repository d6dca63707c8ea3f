/- The words of a line: what is ahead alone; blanks; errors. -/
import Derived.Test.YthkddellilhhaaaGreatDoorP1
namespace Go.Proofs.YthkddellilhhaaaGreatDoor
set_option linter.unusedVariables false
set_option linter.unusedSimpArgs false
namespace Lx
variable (rd pi : List UInt8 → Option Int)
theorem take_take_le {s : List UInt8} {n m : Nat} (h : n ≤ m) : (s.take m).take n = s.take n := by rw [List.take_take, Nat.min_eq_left h]
theorem get_take {s : List UInt8} {i m : Nat} (h : i < m) : (s.take m)[i]? = s[i]? := List.getElem?_take_of_lt h
theorem body_take {s : List UInt8} {m : Nat} (h : 1 ≤ m) : body (s.take m) = (body s).take (m - (s.length - (body s).length)) ∧ (s.take m).length - (body (s.take m)).length = s.length - (body s).length := by
  cases s with
  | nil => simp [body]
  | cons c r =>
    obtain ⟨m, rfl⟩ : ∃ k, m = k + 1 := ⟨m - 1, by omega⟩
    rw [List.take_succ_cons]
    unfold body
    dsimp only
    split
    · refine ⟨by simp, by simp⟩
    · refine ⟨by simp, by simp⟩
theorem num_take {s : List UInt8} {v : Int} {n m : Nat} (hp : pi [] = none) (h : num pi s = some (v, n)) (hm : n ≤ m) : num pi (s.take m) = some (v, n) := by
  have hpos := num_pos pi hp h
  obtain ⟨b1, b2⟩ := body_take (s := s) (m := m) (by omega)
  have bl := body_len s
  unfold num at h ⊢
  dsimp only at h ⊢
  rw [b2, b1, run_take]
  split at h
  · cases h
  · rename_i x hx
    split at h
    · cases h
    · rename_i hc
      injection h with h
      injection h with h1 h2
      subst h1
      have e : s.length - (body s).length + min (run dgt (body s)) (m - (s.length - (body s).length)) = n := by omega
      rw [e, take_take_le hm]
      rw [h2] at hx
      rw [hx]
      dsimp only
      rw [if_neg]
      rw [h2] at hc
      intro hcon
      apply hc
      rcases hcon with ⟨c1, c2⟩ | ⟨c, c1, c2⟩
      · left
        refine ⟨?_, c2⟩
        rw [get_take (by omega)] at c1
        exact c1
      · right
        refine ⟨c, ?_, c2⟩
        by_cases z : n < m
        · rw [get_take z] at c1; exact c1
        · have : (s.take m).length ≤ n := by rw [List.length_take]; omega
          rw [List.getElem?_eq_none this] at c1; cases c1
theorem first_take {s : List UInt8} {t : Tk} {n m : Nat} (hp : pi [] = none) (h : first rd pi s = some (t, n)) (hm : n ≤ m) : first rd pi (s.take m) = some (t, n) := by
  have hpos := first_pos rd pi hp h
  cases s with
  | nil => unfold first at h; cases h
  | cons c r =>
    obtain ⟨m, rfl⟩ : ∃ k, m = k + 1 := ⟨m - 1, by omega⟩
    rw [List.take_succ_cons]
    unfold first at h ⊢
    dsimp only at h ⊢
    split at h
    · rename_i c1; rw [if_pos c1]; exact h
    · rename_i c1
      rw [if_neg c1]
      split at h
      · rename_i c2
        rw [if_pos c2]
        split at h
        · rename_i d hd
          have hn : 1 + run dlt r = n := by injection h with h; injection h
          rw [run_take, Nat.min_eq_left (by omega), take_take_le (by omega), hd]
          exact h
        · cases h
      · rename_i c2
        rw [if_neg c2]
        split at h
        · rename_i c3
          rw [if_pos c3]
          split at h
          · rename_i x hx
            have hn : x.2 = n := by injection h with h; injection h
            have := num_take pi hp (show num pi (c :: r) = some (x.1, x.2) from hx) (m := m + 1) (by omega)
            rw [List.take_succ_cons] at this
            rw [this]
            exact h
          · cases h
        · rename_i c3
          rw [if_neg c3]
          split at h
          · rename_i hn
            have hn2 : run ltr (c :: r) = n := by injection h with h; injection h
            have e1 : run ltr (c :: r.take m) = run ltr (c :: r) := by
              have := run_take ltr (c :: r) (m + 1)
              rw [List.take_succ_cons] at this
              rw [this]; omega
            have e2 : (c :: r.take m).take (run ltr (c :: r)) = (c :: r).take (run ltr (c :: r)) := by
              have := take_take_le (s := c :: r) (n := run ltr (c :: r)) (m := m + 1) (by omega)
              rw [List.take_succ_cons] at this
              exact this
            rw [e1, e2, if_pos hn]
            exact h
          · cases h
/-- Blanks belong to no word. -/
theorem blk_kinds {b : UInt8} (h : blk b = true) : ltr b = false ∧ dgt b = false ∧ dlt b = false ∧ mrk b = false ∧ b ≠ 45 := by
  have := of_decide_eq_true h
  have e : b.toNat ≠ 45 := by omega
  refine ⟨?_, ?_, ?_, ?_, fun z => e (by rw [z]; rfl)⟩
  · unfold ltr; simp; omega
  · unfold dgt; simp; omega
  · unfold dlt ltr; simp; omega
  · unfold mrk; simp; omega
theorem body_app {s : List UInt8} (hs : s ≠ []) (r : List UInt8) : body (s ++ r) = body s ++ r := by
  cases s with
  | nil => exact absurd rfl hs
  | cons c q => rw [List.cons_append]; unfold body; dsimp only; split <;> simp
theorem num_app {s : List UInt8} (hs : s ≠ []) {b : UInt8} (hb : blk b = true) (r : List UInt8) : num pi (s ++ b :: r) = num pi s := by
  obtain ⟨k1, k2, k3, k4, k5⟩ := blk_kinds hb
  have bl := body_len s
  have rl := run_le dgt (body s)
  unfold num
  dsimp only
  rw [body_app hs, run_app dgt b k2]
  have e1 : (s ++ b :: r).length - (body s ++ b :: r).length = s.length - (body s).length := by simp; omega
  rw [e1]
  generalize hn : s.length - (body s).length + run dgt (body s) = n
  have hnl : n ≤ s.length := by omega
  rw [List.take_append_of_le_length hnl]
  cases pi (s.take n) with
  | none => rfl
  | some v =>
    dsimp only
    have a1 : ((body s ++ b :: r)[0]? = some 48 ∧ 1 < n) ↔ ((body s)[0]? = some 48 ∧ 1 < n) := by
      cases hd : body s with
      | nil =>
        simp
        intro z
        subst z
        rcases of_decide_eq_true hb with z | z <;> exact absurd z (by decide)
      | cons x y => simp
    have a2 : (∃ c, (s ++ b :: r)[n]? = some c ∧ ltr c = true) ↔ (∃ c, s[n]? = some c ∧ ltr c = true) := by
      constructor
      · rintro ⟨c, h1, h2⟩
        by_cases z : n < s.length
        · rw [List.getElem?_append_left z] at h1; exact ⟨c, h1, h2⟩
        · have z2 : n = s.length := by omega
          rw [z2, List.getElem?_append_right (Nat.le_refl _)] at h1
          simp at h1
          subst h1
          rw [k1] at h2; cases h2
      · rintro ⟨c, h1, h2⟩
        have z : n < s.length := (List.getElem?_eq_some_iff.1 h1).1
        exact ⟨c, by rw [List.getElem?_append_left z]; exact h1, h2⟩
    by_cases hc : ((body s)[0]? = some 48 ∧ 1 < n) ∨ (∃ c, s[n]? = some c ∧ ltr c = true)
    · rw [if_pos hc, if_pos (hc.imp a1.2 a2.2)]
    · rw [if_neg hc, if_neg (fun h => hc (h.imp a1.1 a2.1))]
theorem first_app {s : List UInt8} (hs : s ≠ []) {b : UInt8} (hb : blk b = true) (r : List UInt8) : first rd pi (s ++ b :: r) = first rd pi s := by
  obtain ⟨k1, k2, k3, k4, k5⟩ := blk_kinds hb
  cases s with
  | nil => exact absurd rfl hs
  | cons c q =>
    rw [List.cons_append]
    unfold first
    dsimp only
    rw [run_app dlt b k3, show c :: (q ++ b :: r) = (c :: q) ++ b :: r from rfl, num_app pi (by simp) hb, run_app ltr b k1]
    rw [List.take_append_of_le_length (run_le dlt q), List.take_append_of_le_length (run_le ltr (c :: q))]
theorem words_shift : ∀ (N : Nat) (s : List UInt8), s.length ≤ N → ∀ (k : Nat) (acc : List Tk), words rd pi s k acc = if (words rd pi s 0 []).2 < 0 then (acc ++ (words rd pi s 0 []).1, -1) else ([], (words rd pi s 0 []).2 + k)
  | N, [], _, k, acc => by rw [words_nil, words_nil]; simp
  | 0, c :: r, h, _, _ => by simp at h
  | N + 1, c :: r, h, k, acc => by
    have hr : r.length ≤ N := by simpa using h
    cases hb : blk c
    · cases hf : first rd pi (c :: r) with
      | none => rw [words_none rd pi hb hf, words_none rd pi hb hf]; simp
      | some x =>
        obtain ⟨t, n⟩ := x
        rw [words_some rd pi hb hf, words_some rd pi hb hf]
        have hd : (r.drop (n - 1)).length ≤ N := by rw [List.length_drop]; omega
        rw [words_shift N _ hd (k + n) (acc ++ [t]), words_shift N _ hd (0 + n) ([] ++ [t])]
        by_cases z : (words rd pi (r.drop (n - 1)) 0 []).2 < 0
        · rw [if_pos z, if_pos z, if_pos (show (-1 : Int) < 0 by decide)]
          simp
        · rw [if_neg z, if_neg z, if_neg (by dsimp only; omega)]
          congr 1
          dsimp only
          omega
    · rw [words_blank rd pi hb, words_blank rd pi hb, words_shift N r hr (k + 1) acc, words_shift N r hr (0 + 1) []]
      by_cases z : (words rd pi r 0 []).2 < 0
      · rw [if_pos z, if_pos z, if_pos (show (-1 : Int) < 0 by decide)]
        simp
      · rw [if_neg z, if_neg z, if_neg (by dsimp only; omega)]
        congr 1
        dsimp only
        omega
/-- Where the first error is. -/
theorem words_place (hp : pi [] = none) : ∀ (N : Nat) (s : List UInt8), s.length ≤ N → (words rd pi s 0 []).2 = -1 ∨ ∃ j : Nat, words rd pi s 0 [] = ([], (j : Int)) ∧ j < s.length ∧ (words rd pi (s.take j) 0 []).2 = -1 ∧ words rd pi (s.drop j) 0 [] = ([], 0)
  | N, [], _ => by rw [words_nil]; exact .inl rfl
  | 0, c :: r, h => by simp at h
  | N + 1, c :: r, h => by
    have hr : r.length ≤ N := by simpa using h
    cases hb : blk c
    · cases hf : first rd pi (c :: r) with
      | none =>
        right
        refine ⟨0, words_none rd pi hb hf 0 [], by simp, by rw [List.take_zero, words_nil], ?_⟩
        rw [List.drop_zero, words_none rd pi hb hf]; rfl
      | some x =>
        obtain ⟨t, n⟩ := x
        have hpos := first_pos rd pi hp hf
        have hd : (r.drop (n - 1)).length ≤ N := by rw [List.length_drop]; omega
        have hls : n ≤ r.length + 1 := by simpa using hpos.2
        rw [words_some rd pi hb hf, words_shift rd pi N _ hd]
        rcases words_place hp N _ hd with e | ⟨j, e, hj, h1, h2⟩
        · left; rw [if_pos (by rw [e]; decide)]
        · right
          have ej : (words rd pi (r.drop (n - 1)) 0 []).2 = (j : Int) := by rw [e]
          have hj2 : j + n < r.length + 1 := by rw [List.length_drop] at hj; omega
          refine ⟨j + n, by rw [if_neg (by rw [ej]; omega), ej]; simp, by simpa using hj2, ?_, ?_⟩
          · have ht := first_take rd pi hp hf (m := j + n) (by omega)
            obtain ⟨m, hm⟩ : ∃ m, j + n = m + 1 := ⟨j + n - 1, by omega⟩
            rw [hm, List.take_succ_cons] at ht ⊢
            rw [words_some rd pi hb ht]
            have e3 : (r.take m).drop (n - 1) = (r.drop (n - 1)).take j := by
              rw [List.drop_take]; congr 1; omega
            rw [e3, words_shift rd pi N _ (by rw [List.length_take]; omega), if_pos (by rw [h1]; decide)]
          · obtain ⟨m, hm⟩ : ∃ m, n = m + 1 := ⟨n - 1, by omega⟩
            have e4 : (c :: r).drop (j + n) = (r.drop (n - 1)).drop j := by
              rw [List.drop_drop, hm, show j + (m + 1) = (m + 1 - 1 + j) + 1 by omega, List.drop_succ_cons]
            rw [e4]; exact h2
    · rw [words_blank rd pi hb, words_shift rd pi N r hr]
      rcases words_place hp N r hr with e | ⟨j, e, hj, h1, h2⟩
      · left; rw [if_pos (by rw [e]; decide)]
      · right
        have ej : (words rd pi r 0 []).2 = (j : Int) := by rw [e]
        refine ⟨j + 1, by rw [if_neg (by rw [ej]; omega), ej]; simp, by simpa using hj, ?_, ?_⟩
        · rw [List.take_succ_cons, words_blank rd pi hb, words_shift rd pi N _ (by rw [List.length_take]; omega), if_pos (by rw [h1]; decide)]
        · rw [List.drop_succ_cons]; exact h2
end Lx
end Go.Proofs.YthkddellilhhaaaGreatDoor
