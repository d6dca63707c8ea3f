/- P1, P2, P3 in one. -/
namespace Go.Proofs.YtimjendkpjojoaaGreatDoor
set_option linter.unusedVariables false
set_option linter.unusedSimpArgs false
namespace Lx
abbrev Tk := Int × List UInt8 × Int
def dgt (c : UInt8) : Bool := decide (48 ≤ c.toNat ∧ c.toNat ≤ 57)
def ltr (c : UInt8) : Bool := decide ((48 ≤ c.toNat ∧ c.toNat ≤ 57) ∨ c.toNat = 95 ∨ (97 ≤ c.toNat ∧ c.toNat ≤ 122) ∨ (65 ≤ c.toNat ∧ c.toNat ≤ 90))
def dlt (c : UInt8) : Bool := decide (c.toNat = 45 ∨ ltr c = true)
def mrk (c : UInt8) : Bool := decide (c.toNat = 40 ∨ c.toNat = 41 ∨ c.toNat = 44 ∨ c.toNat = 61 ∨ c.toNat = 58 ∨ c.toNat = 91 ∨ c.toNat = 93)
def blk (c : UInt8) : Bool := decide (c.toNat = 32 ∨ c.toNat = 9)
/-- How many bytes are of a kind, from the beginning on. -/
def run (p : UInt8 → Bool) (s : List UInt8) : Nat := (s.takeWhile p).length
theorem run_le (p : UInt8 → Bool) (s : List UInt8) : run p s ≤ s.length := by unfold run; exact (List.takeWhile_prefix p).length_le
theorem run_nil (p : UInt8 → Bool) : run p [] = 0 := rfl
theorem run_cons (p : UInt8 → Bool) (c : UInt8) (s : List UInt8) : run p (c :: s) = if p c = true then run p s + 1 else 0 := by
  unfold run
  rw [List.takeWhile_cons]
  split <;> simp
theorem run_take (p : UInt8 → Bool) : ∀ (s : List UInt8) (m : Nat), run p (s.take m) = min (run p s) m
  | [], m => by simp [run_nil]
  | c :: s, 0 => by simp [run_nil]
  | c :: s, m + 1 => by
    rw [List.take_succ_cons, run_cons, run_cons, run_take p s m]
    split <;> omega
theorem run_app (p : UInt8 → Bool) (b : UInt8) (hb : p b = false) : ∀ (s r : List UInt8), run p (s ++ b :: r) = run p s
  | [], r => by rw [List.nil_append, run_cons, hb]; rfl
  | c :: s, r => by rw [List.cons_append, run_cons, run_cons, run_app p b hb s r]
theorem run_all (p : UInt8 → Bool) : ∀ (s : List UInt8), (∀ c ∈ s, p c = true) → run p s = s.length
  | [], _ => rfl
  | c :: s, h => by
    rw [run_cons, if_pos (h c List.mem_cons_self), run_all p s (fun x hx => h x (List.mem_cons_of_mem _ hx))]
    rfl
theorem run_in (p : UInt8 → Bool) : ∀ (s : List UInt8), ∀ c ∈ s.take (run p s), p c = true
  | [], c, h => by simp at h
  | a :: s, c, h => by
    rw [run_cons] at h
    split at h
    · rename_i ha
      rw [List.take_succ_cons] at h
      rcases List.mem_cons.1 h with e | e
      · rw [e]; exact ha
      · exact run_in p s c e
    · simp at h
theorem run_next (p : UInt8 → Bool) : ∀ (s : List UInt8) (c : UInt8), s[run p s]? = some c → p c = false
  | [], c, h => by simp at h
  | a :: s, c, h => by
    rw [run_cons] at h
    split at h
    · rw [List.getElem?_cons_succ] at h
      exact run_next p s c h
    · rename_i ha
      simp at h
      subst h
      simpa using ha
def nameOk (s : List UInt8) : Bool := decide (1 ≤ s.length ∧ s.length ≤ 30 ∧ (∀ c, s[0]? = some c → dgt c = false) ∧ run ltr s = s.length)
/-- What is behind a minus. -/
def body (s : List UInt8) : List UInt8 := match s with
  | c :: r => if c = 45 then r else c :: r
  | [] => []
variable (rd pi : List UInt8 → Option Int)
/-- The number that begins a text. -/
def num (s : List UInt8) : Option (Int × Nat) :=
  let d := body s
  let n := s.length - d.length + run dgt d
  match pi (s.take n) with
  | none => none
  | some v => if (d[0]? = some 48 ∧ 1 < n) ∨ (∃ c, s[n]? = some c ∧ ltr c = true) then none else some (v, n)
/-- The word that begins a text. -/
def first (s : List UInt8) : Option (Tk × Nat) := match s with
  | [] => none
  | c :: r =>
    if mrk c = true then some ((4, [c], 0), 1)
    else if c = 64 then (match rd (r.take (run dlt r)) with
      | some d => some ((3, [], d), 1 + run dlt r)
      | none => none)
    else if c = 45 ∨ dgt c = true then (match num pi (c :: r) with
      | some x => some ((2, [], x.1), x.2)
      | none => none)
    else if nameOk ((c :: r).take (run ltr (c :: r))) = true then some ((1, (c :: r).take (run ltr (c :: r)), 0), run ltr (c :: r)) else none
theorem body_len (s : List UInt8) : (body s).length ≤ s.length ∧ s.length - (body s).length ≤ 1 := by
  unfold body
  cases s with
  | nil => simp
  | cons c r => dsimp only; split <;> simp
theorem num_pos {s : List UInt8} {v : Int} {n : Nat} (hp : pi [] = none) (h : num pi s = some (v, n)) : 1 ≤ n ∧ n ≤ s.length ∧ pi (s.take n) = some v := by
  unfold num at h
  dsimp only at h
  split at h
  · cases h
  · rename_i x hx
    split at h
    · cases h
    · injection h with h
      injection h with h1 h2
      subst h1 h2
      have a := run_le dgt (body s)
      have b := body_len s
      refine ⟨?_, by omega, hx⟩
      rcases Nat.eq_zero_or_pos (s.length - (body s).length + run dgt (body s)) with z | z
      · rw [z, List.take_zero, hp] at hx; cases hx
      · exact z
theorem first_pos {s : List UInt8} {t : Tk} {n : Nat} (hp : pi [] = none) (h : first rd pi s = some (t, n)) : 1 ≤ n ∧ n ≤ s.length := by
  unfold first at h
  cases s with
  | nil => cases h
  | cons c r =>
    dsimp only at h
    split at h
    · injection h with h; injection h with h1 h2; subst h2; simp
    · split at h
      · split at h
        · injection h with h; injection h with h1 h2; subst h2
          have := run_le dlt r
          simp; omega
        · cases h
      · split at h
        · split at h
          · rename_i x hx
            injection h with h; injection h with h1 h2; subst h2
            have := num_pos pi hp (show num pi (c :: r) = some (x.1, x.2) from hx)
            exact ⟨this.1, this.2.1⟩
          · cases h
        · split at h
          · rename_i hn
            injection h with h; injection h with h1 h2; subst h2
            have a := run_le ltr (c :: r)
            have b := of_decide_eq_true hn
            rw [List.length_take] at b
            omega
          · cases h
/-- The words of a line: what is left, where it begins, the words so far. -/
def words (s : List UInt8) (k : Nat) (acc : List Tk) : List Tk × Int := match s with
  | [] => (acc, -1)
  | c :: r => if blk c = true then words r (k + 1) acc else
    match first rd pi (c :: r) with
    | none => ([], (k : Int))
    | some (t, n) => words (r.drop (n - 1)) (k + n) (acc ++ [t])
termination_by s.length
decreasing_by all_goals (simp; try omega)
theorem words_nil (k : Nat) (acc : List Tk) : words rd pi [] k acc = (acc, -1) := by rw [words]
theorem words_blank {c : UInt8} (h : blk c = true) (r : List UInt8) (k : Nat) (acc : List Tk) : words rd pi (c :: r) k acc = words rd pi r (k + 1) acc := by rw [words, if_pos h]
theorem words_none {c : UInt8} {r : List UInt8} (h : blk c = false) (hf : first rd pi (c :: r) = none) (k : Nat) (acc : List Tk) : words rd pi (c :: r) k acc = ([], (k : Int)) := by rw [words, if_neg (by rw [h]; decide), hf]
theorem words_some {c : UInt8} {r : List UInt8} {t : Tk} {n : Nat} (h : blk c = false) (hf : first rd pi (c :: r) = some (t, n)) (k : Nat) (acc : List Tk) : words rd pi (c :: r) k acc = words rd pi (r.drop (n - 1)) (k + n) (acc ++ [t]) := by rw [words, if_neg (by rw [h]; decide), hf]
end Lx
namespace Lx
variable (rd pi : List UInt8 → Option Int)
theorem take_take_le {s : List UInt8} {n m : Nat} (h : n ≤ m) : (s.take m).take n = s.take n := by rw [List.take_take, Nat.min_eq_left h]
theorem get_take {s : List UInt8} {i m : Nat} (h : i < m) : (s.take m)[i]? = s[i]? := List.getElem?_take_of_lt h
theorem body_take {s : List UInt8} {m : Nat} (h : 1 ≤ m) : body (s.take m) = (body s).take (m - (s.length - (body s).length)) ∧ (s.take m).length - (body (s.take m)).length = s.length - (body s).length := by
  cases s with
  | nil => simp [body]
  | cons c r =>
    obtain ⟨m, rfl⟩ : ∃ k, m = k + 1 := ⟨m - 1, by omega⟩
    rw [List.take_succ_cons]
    unfold body
    dsimp only
    split
    · refine ⟨by simp, by simp⟩
    · refine ⟨by simp, by simp⟩
theorem num_take {s : List UInt8} {v : Int} {n m : Nat} (hp : pi [] = none) (h : num pi s = some (v, n)) (hm : n ≤ m) : num pi (s.take m) = some (v, n) := by
  have hpos := num_pos pi hp h
  obtain ⟨b1, b2⟩ := body_take (s := s) (m := m) (by omega)
  have bl := body_len s
  unfold num at h ⊢
  dsimp only at h ⊢
  rw [b2, b1, run_take]
  split at h
  · cases h
  · rename_i x hx
    split at h
    · cases h
    · rename_i hc
      injection h with h
      injection h with h1 h2
      subst h1
      have e : s.length - (body s).length + min (run dgt (body s)) (m - (s.length - (body s).length)) = n := by omega
      rw [e, take_take_le hm]
      rw [h2] at hx
      rw [hx]
      dsimp only
      rw [if_neg]
      rw [h2] at hc
      intro hcon
      apply hc
      rcases hcon with ⟨c1, c2⟩ | ⟨c, c1, c2⟩
      · left
        refine ⟨?_, c2⟩
        rw [get_take (by omega)] at c1
        exact c1
      · right
        refine ⟨c, ?_, c2⟩
        by_cases z : n < m
        · rw [get_take z] at c1; exact c1
        · have : (s.take m).length ≤ n := by rw [List.length_take]; omega
          rw [List.getElem?_eq_none this] at c1; cases c1
theorem first_take {s : List UInt8} {t : Tk} {n m : Nat} (hp : pi [] = none) (h : first rd pi s = some (t, n)) (hm : n ≤ m) : first rd pi (s.take m) = some (t, n) := by
  have hpos := first_pos rd pi hp h
  cases s with
  | nil => unfold first at h; cases h
  | cons c r =>
    obtain ⟨m, rfl⟩ : ∃ k, m = k + 1 := ⟨m - 1, by omega⟩
    rw [List.take_succ_cons]
    unfold first at h ⊢
    dsimp only at h ⊢
    split at h
    · rename_i c1; rw [if_pos c1]; exact h
    · rename_i c1
      rw [if_neg c1]
      split at h
      · rename_i c2
        rw [if_pos c2]
        split at h
        · rename_i d hd
          have hn : 1 + run dlt r = n := by injection h with h; injection h
          rw [run_take, Nat.min_eq_left (by omega), take_take_le (by omega), hd]
          exact h
        · cases h
      · rename_i c2
        rw [if_neg c2]
        split at h
        · rename_i c3
          rw [if_pos c3]
          split at h
          · rename_i x hx
            have hn : x.2 = n := by injection h with h; injection h
            have := num_take pi hp (show num pi (c :: r) = some (x.1, x.2) from hx) (m := m + 1) (by omega)
            rw [List.take_succ_cons] at this
            rw [this]
            exact h
          · cases h
        · rename_i c3
          rw [if_neg c3]
          split at h
          · rename_i hn
            have hn2 : run ltr (c :: r) = n := by injection h with h; injection h
            have e1 : run ltr (c :: r.take m) = run ltr (c :: r) := by
              have := run_take ltr (c :: r) (m + 1)
              rw [List.take_succ_cons] at this
              rw [this]; omega
            have e2 : (c :: r.take m).take (run ltr (c :: r)) = (c :: r).take (run ltr (c :: r)) := by
              have := take_take_le (s := c :: r) (n := run ltr (c :: r)) (m := m + 1) (by omega)
              rw [List.take_succ_cons] at this
              exact this
            rw [e1, e2, if_pos hn]
            exact h
          · cases h
/-- Blanks belong to no word. -/
theorem blk_kinds {b : UInt8} (h : blk b = true) : ltr b = false ∧ dgt b = false ∧ dlt b = false ∧ mrk b = false ∧ b ≠ 45 := by
  have := of_decide_eq_true h
  have e : b.toNat ≠ 45 := by omega
  refine ⟨?_, ?_, ?_, ?_, fun z => e (by rw [z]; rfl)⟩
  · unfold ltr; simp; omega
  · unfold dgt; simp; omega
  · unfold dlt ltr; simp; omega
  · unfold mrk; simp; omega
theorem body_app {s : List UInt8} (hs : s ≠ []) (r : List UInt8) : body (s ++ r) = body s ++ r := by
  cases s with
  | nil => exact absurd rfl hs
  | cons c q => rw [List.cons_append]; unfold body; dsimp only; split <;> simp
theorem num_app {s : List UInt8} (hs : s ≠ []) {b : UInt8} (hb : blk b = true) (r : List UInt8) : num pi (s ++ b :: r) = num pi s := by
  obtain ⟨k1, k2, k3, k4, k5⟩ := blk_kinds hb
  have bl := body_len s
  have rl := run_le dgt (body s)
  unfold num
  dsimp only
  rw [body_app hs, run_app dgt b k2]
  have e1 : (s ++ b :: r).length - (body s ++ b :: r).length = s.length - (body s).length := by simp; omega
  rw [e1]
  generalize hn : s.length - (body s).length + run dgt (body s) = n
  have hnl : n ≤ s.length := by omega
  rw [List.take_append_of_le_length hnl]
  cases pi (s.take n) with
  | none => rfl
  | some v =>
    dsimp only
    have a1 : ((body s ++ b :: r)[0]? = some 48 ∧ 1 < n) ↔ ((body s)[0]? = some 48 ∧ 1 < n) := by
      cases hd : body s with
      | nil =>
        simp
        intro z
        subst z
        rcases of_decide_eq_true hb with z | z <;> exact absurd z (by decide)
      | cons x y => simp
    have a2 : (∃ c, (s ++ b :: r)[n]? = some c ∧ ltr c = true) ↔ (∃ c, s[n]? = some c ∧ ltr c = true) := by
      constructor
      · rintro ⟨c, h1, h2⟩
        by_cases z : n < s.length
        · rw [List.getElem?_append_left z] at h1; exact ⟨c, h1, h2⟩
        · have z2 : n = s.length := by omega
          rw [z2, List.getElem?_append_right (Nat.le_refl _)] at h1
          simp at h1
          subst h1
          rw [k1] at h2; cases h2
      · rintro ⟨c, h1, h2⟩
        have z : n < s.length := (List.getElem?_eq_some_iff.1 h1).1
        exact ⟨c, by rw [List.getElem?_append_left z]; exact h1, h2⟩
    by_cases hc : ((body s)[0]? = some 48 ∧ 1 < n) ∨ (∃ c, s[n]? = some c ∧ ltr c = true)
    · rw [if_pos hc, if_pos (hc.imp a1.2 a2.2)]
    · rw [if_neg hc, if_neg (fun h => hc (h.imp a1.1 a2.1))]
theorem first_app {s : List UInt8} (hs : s ≠ []) {b : UInt8} (hb : blk b = true) (r : List UInt8) : first rd pi (s ++ b :: r) = first rd pi s := by
  obtain ⟨k1, k2, k3, k4, k5⟩ := blk_kinds hb
  cases s with
  | nil => exact absurd rfl hs
  | cons c q =>
    rw [List.cons_append]
    unfold first
    dsimp only
    rw [run_app dlt b k3, show c :: (q ++ b :: r) = (c :: q) ++ b :: r from rfl, num_app pi (by simp) hb, run_app ltr b k1]
    rw [List.take_append_of_le_length (run_le dlt q), List.take_append_of_le_length (run_le ltr (c :: q))]
theorem words_shift : ∀ (N : Nat) (s : List UInt8), s.length ≤ N → ∀ (k : Nat) (acc : List Tk), words rd pi s k acc = if (words rd pi s 0 []).2 < 0 then (acc ++ (words rd pi s 0 []).1, -1) else ([], (words rd pi s 0 []).2 + k)
  | N, [], _, k, acc => by rw [words_nil, words_nil]; simp
  | 0, c :: r, h, _, _ => by simp at h
  | N + 1, c :: r, h, k, acc => by
    have hr : r.length ≤ N := by simpa using h
    cases hb : blk c
    · cases hf : first rd pi (c :: r) with
      | none => rw [words_none rd pi hb hf, words_none rd pi hb hf]; simp
      | some x =>
        obtain ⟨t, n⟩ := x
        rw [words_some rd pi hb hf, words_some rd pi hb hf]
        have hd : (r.drop (n - 1)).length ≤ N := by rw [List.length_drop]; omega
        rw [words_shift N _ hd (k + n) (acc ++ [t]), words_shift N _ hd (0 + n) ([] ++ [t])]
        by_cases z : (words rd pi (r.drop (n - 1)) 0 []).2 < 0
        · rw [if_pos z, if_pos z, if_pos (show (-1 : Int) < 0 by decide)]
          simp
        · rw [if_neg z, if_neg z, if_neg (by dsimp only; omega)]
          congr 1
          dsimp only
          omega
    · rw [words_blank rd pi hb, words_blank rd pi hb, words_shift N r hr (k + 1) acc, words_shift N r hr (0 + 1) []]
      by_cases z : (words rd pi r 0 []).2 < 0
      · rw [if_pos z, if_pos z, if_pos (show (-1 : Int) < 0 by decide)]
        simp
      · rw [if_neg z, if_neg z, if_neg (by dsimp only; omega)]
        congr 1
        dsimp only
        omega
/-- Where the first error is. -/
theorem words_place (hp : pi [] = none) : ∀ (N : Nat) (s : List UInt8), s.length ≤ N → (words rd pi s 0 []).2 = -1 ∨ ∃ j : Nat, words rd pi s 0 [] = ([], (j : Int)) ∧ j < s.length ∧ (words rd pi (s.take j) 0 []).2 = -1 ∧ words rd pi (s.drop j) 0 [] = ([], 0)
  | N, [], _ => by rw [words_nil]; exact .inl rfl
  | 0, c :: r, h => by simp at h
  | N + 1, c :: r, h => by
    have hr : r.length ≤ N := by simpa using h
    cases hb : blk c
    · cases hf : first rd pi (c :: r) with
      | none =>
        right
        refine ⟨0, words_none rd pi hb hf 0 [], by simp, by rw [List.take_zero, words_nil], ?_⟩
        rw [List.drop_zero, words_none rd pi hb hf]; rfl
      | some x =>
        obtain ⟨t, n⟩ := x
        have hpos := first_pos rd pi hp hf
        have hd : (r.drop (n - 1)).length ≤ N := by rw [List.length_drop]; omega
        have hls : n ≤ r.length + 1 := by simpa using hpos.2
        rw [words_some rd pi hb hf, words_shift rd pi N _ hd]
        rcases words_place hp N _ hd with e | ⟨j, e, hj, h1, h2⟩
        · left; rw [if_pos (by rw [e]; decide)]
        · right
          have ej : (words rd pi (r.drop (n - 1)) 0 []).2 = (j : Int) := by rw [e]
          have hj2 : j + n < r.length + 1 := by rw [List.length_drop] at hj; omega
          refine ⟨j + n, by rw [if_neg (by rw [ej]; omega), ej]; simp, by simpa using hj2, ?_, ?_⟩
          · have ht := first_take rd pi hp hf (m := j + n) (by omega)
            obtain ⟨m, hm⟩ : ∃ m, j + n = m + 1 := ⟨j + n - 1, by omega⟩
            rw [hm, List.take_succ_cons] at ht ⊢
            rw [words_some rd pi hb ht]
            have e3 : (r.take m).drop (n - 1) = (r.drop (n - 1)).take j := by
              rw [List.drop_take]; congr 1; omega
            rw [e3, words_shift rd pi N _ (by rw [List.length_take]; omega), if_pos (by rw [h1]; decide)]
          · obtain ⟨m, hm⟩ : ∃ m, n = m + 1 := ⟨n - 1, by omega⟩
            have e4 : (c :: r).drop (j + n) = (r.drop (n - 1)).drop j := by
              rw [List.drop_drop, hm, show j + (m + 1) = (m + 1 - 1 + j) + 1 by omega, List.drop_succ_cons]
            rw [e4]; exact h2
    · rw [words_blank rd pi hb, words_shift rd pi N r hr]
      rcases words_place hp N r hr with e | ⟨j, e, hj, h1, h2⟩
      · left; rw [if_pos (by rw [e]; decide)]
      · right
        have ej : (words rd pi r 0 []).2 = (j : Int) := by rw [e]
        refine ⟨j + 1, by rw [if_neg (by rw [ej]; omega), ej]; simp, by simpa using hj, ?_, ?_⟩
        · rw [List.take_succ_cons, words_blank rd pi hb, words_shift rd pi N _ (by rw [List.length_take]; omega), if_pos (by rw [h1]; decide)]
        · rw [List.drop_succ_cons]; exact h2
end Lx
namespace Lx
variable (rd pi : List UInt8 → Option Int)
/-- A text that is one word, and no blank ahead. -/
structure One (s : List UInt8) (t : Tk) : Prop where
  first : first rd pi s = some (t, s.length)
  head : ∃ c r, s = c :: r ∧ blk c = false
theorem word_one {s : List UInt8} {t : Tk} (h : One rd pi s t) (k : Nat) (acc : List Tk) : words rd pi s k acc = (acc ++ [t], -1) := by
  obtain ⟨c, r, rfl, hb⟩ := h.head
  rw [words_some rd pi hb h.first]
  have e : r.drop ((c :: r).length - 1) = [] := by apply List.drop_of_length_le; simp
  rw [e, words_nil]
theorem word_more {s : List UInt8} {t : Tk} (h : One rd pi s t) {b : UInt8} (hb : blk b = true) (q : List UInt8) (k : Nat) (acc : List Tk) : words rd pi (s ++ b :: q) k acc = words rd pi q (k + s.length + 1) (acc ++ [t]) := by
  have hf := first_app rd pi (s := s) (by obtain ⟨c, r, rfl, _⟩ := h.head; simp) hb q
  obtain ⟨c, r, rfl, hc⟩ := h.head
  rw [h.first] at hf
  rw [List.cons_append] at hf ⊢
  rw [words_some rd pi hc hf]
  have e : (r ++ b :: q).drop ((c :: r).length - 1) = b :: q := by
    rw [show (c :: r).length - 1 = r.length by simp]
    exact List.drop_left
  rw [e, words_blank rd pi hb]
/-- Words with a blank between any two. -/
def joinL : List (List UInt8) → List UInt8
  | [] => []
  | [x] => x
  | x :: y :: r => x ++ 32 :: joinL (y :: r)
theorem words_join : ∀ (l : List (List UInt8 × Tk)), (∀ x ∈ l, One rd pi x.1 x.2) → ∀ (k : Nat) (acc : List Tk), words rd pi (joinL (l.map (fun x => x.1))) k acc = (acc ++ l.map (fun x => x.2), -1)
  | [], _, k, acc => by simp [joinL, words_nil]
  | [x], h, k, acc => by
    have := word_one rd pi (h x List.mem_cons_self) k acc
    simpa [joinL] using this
  | x :: y :: r, h, k, acc => by
    have ih := words_join (y :: r) (fun z hz => h z (List.mem_cons_of_mem _ hz))
    show words rd pi (x.1 ++ 32 :: joinL ((y :: r).map (fun x => x.1))) k acc = _
    rw [word_more rd pi (h x List.mem_cons_self) (by decide), ih]
    simp
/-- Texts with a blank between: the first one's words, or its error, then the other's. -/
theorem words_app (hp : pi [] = none) : ∀ (N : Nat) (s : List UInt8), s.length ≤ N → ∀ {b : UInt8}, blk b = true → ∀ (q : List UInt8) (k : Nat) (acc : List Tk), words rd pi (s ++ b :: q) k acc = if (words rd pi s k acc).2 < 0 then words rd pi q (k + s.length + 1) (words rd pi s k acc).1 else words rd pi s k acc
  | N, [], _, b, hb, q, k, acc => by rw [List.nil_append, words_blank rd pi hb, words_nil]; simp
  | 0, c :: r, h, _, _, _, _, _ => by simp at h
  | N + 1, c :: r, h, b, hb, q, k, acc => by
    have hr : r.length ≤ N := by simpa using h
    cases hc : blk c
    · have ha := first_app rd pi (s := c :: r) (by simp) hb q
      cases hf : first rd pi (c :: r) with
      | none =>
        rw [hf] at ha
        rw [List.cons_append] at ha ⊢
        rw [words_none rd pi hc ha, words_none rd pi hc hf, if_neg (by dsimp only; omega)]
      | some x =>
        obtain ⟨t, n⟩ := x
        rw [hf] at ha
        rw [List.cons_append] at ha ⊢
        rw [words_some rd pi hc ha, words_some rd pi hc hf]
        have hpos := first_pos rd pi hp hf
        have hn : n - 1 ≤ r.length := by have := hpos.2; simp at this; omega
        rw [List.drop_append_of_le_length hn, words_app hp N _ (by rw [List.length_drop]; omega) hb]
        rw [show k + n + (r.drop (n - 1)).length + 1 = k + (c :: r).length + 1 by rw [List.length_drop]; simp; omega]
    · rw [List.cons_append, words_blank rd pi hc, words_blank rd pi hc, words_app hp N r hr hb]
      rw [show k + 1 + r.length + 1 = k + (c :: r).length + 1 by simp; omega]
end Lx
end Go.Proofs.YtimjendkpjojoaaGreatDoor
