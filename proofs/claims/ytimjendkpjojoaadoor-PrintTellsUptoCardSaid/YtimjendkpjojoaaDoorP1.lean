/- The words of a line, plainly. -/
namespace Go.Proofs.YtimjendkpjojoaaDoor
set_option linter.unusedVariables false
set_option linter.unusedSimpArgs false
namespace Lx
abbrev Tk := Int × List UInt8 × Int
def dgt (c : UInt8) : Bool := decide (48 ≤ c.toNat ∧ c.toNat ≤ 57)
def ltr (c : UInt8) : Bool := decide ((48 ≤ c.toNat ∧ c.toNat ≤ 57) ∨ c.toNat = 95 ∨ (97 ≤ c.toNat ∧ c.toNat ≤ 122) ∨ (65 ≤ c.toNat ∧ c.toNat ≤ 90))
def dlt (c : UInt8) : Bool := decide (c.toNat = 45 ∨ ltr c = true)
def mrk (c : UInt8) : Bool := decide (c.toNat = 40 ∨ c.toNat = 41 ∨ c.toNat = 44 ∨ c.toNat = 61 ∨ c.toNat = 58 ∨ c.toNat = 91 ∨ c.toNat = 93)
def blk (c : UInt8) : Bool := decide (c.toNat = 32 ∨ c.toNat = 9)
/-- How many bytes are of a kind, from the beginning on. -/
def run (p : UInt8 → Bool) (s : List UInt8) : Nat := (s.takeWhile p).length
theorem run_le (p : UInt8 → Bool) (s : List UInt8) : run p s ≤ s.length := by unfold run; exact (List.takeWhile_prefix p).length_le
theorem run_nil (p : UInt8 → Bool) : run p [] = 0 := rfl
theorem run_cons (p : UInt8 → Bool) (c : UInt8) (s : List UInt8) : run p (c :: s) = if p c = true then run p s + 1 else 0 := by
  unfold run
  rw [List.takeWhile_cons]
  split <;> simp
theorem run_take (p : UInt8 → Bool) : ∀ (s : List UInt8) (m : Nat), run p (s.take m) = min (run p s) m
  | [], m => by simp [run_nil]
  | c :: s, 0 => by simp [run_nil]
  | c :: s, m + 1 => by
    rw [List.take_succ_cons, run_cons, run_cons, run_take p s m]
    split <;> omega
theorem run_app (p : UInt8 → Bool) (b : UInt8) (hb : p b = false) : ∀ (s r : List UInt8), run p (s ++ b :: r) = run p s
  | [], r => by rw [List.nil_append, run_cons, hb]; rfl
  | c :: s, r => by rw [List.cons_append, run_cons, run_cons, run_app p b hb s r]
theorem run_all (p : UInt8 → Bool) : ∀ (s : List UInt8), (∀ c ∈ s, p c = true) → run p s = s.length
  | [], _ => rfl
  | c :: s, h => by
    rw [run_cons, if_pos (h c List.mem_cons_self), run_all p s (fun x hx => h x (List.mem_cons_of_mem _ hx))]
    rfl
theorem run_in (p : UInt8 → Bool) : ∀ (s : List UInt8), ∀ c ∈ s.take (run p s), p c = true
  | [], c, h => by simp at h
  | a :: s, c, h => by
    rw [run_cons] at h
    split at h
    · rename_i ha
      rw [List.take_succ_cons] at h
      rcases List.mem_cons.1 h with e | e
      · rw [e]; exact ha
      · exact run_in p s c e
    · simp at h
theorem run_next (p : UInt8 → Bool) : ∀ (s : List UInt8) (c : UInt8), s[run p s]? = some c → p c = false
  | [], c, h => by simp at h
  | a :: s, c, h => by
    rw [run_cons] at h
    split at h
    · rw [List.getElem?_cons_succ] at h
      exact run_next p s c h
    · rename_i ha
      simp at h
      subst h
      simpa using ha
def nameOk (s : List UInt8) : Bool := decide (1 ≤ s.length ∧ s.length ≤ 30 ∧ (∀ c, s[0]? = some c → dgt c = false) ∧ run ltr s = s.length)
/-- What is behind a minus. -/
def body (s : List UInt8) : List UInt8 := match s with
  | c :: r => if c = 45 then r else c :: r
  | [] => []
variable (rd pi : List UInt8 → Option Int)
/-- The number that begins a text. -/
def num (s : List UInt8) : Option (Int × Nat) :=
  let d := body s
  let n := s.length - d.length + run dgt d
  match pi (s.take n) with
  | none => none
  | some v => if (d[0]? = some 48 ∧ 1 < n) ∨ (∃ c, s[n]? = some c ∧ ltr c = true) then none else some (v, n)
/-- The word that begins a text. -/
def first (s : List UInt8) : Option (Tk × Nat) := match s with
  | [] => none
  | c :: r =>
    if mrk c = true then some ((4, [c], 0), 1)
    else if c = 64 then (match rd (r.take (run dlt r)) with
      | some d => some ((3, [], d), 1 + run dlt r)
      | none => none)
    else if c = 45 ∨ dgt c = true then (match num pi (c :: r) with
      | some x => some ((2, [], x.1), x.2)
      | none => none)
    else if nameOk ((c :: r).take (run ltr (c :: r))) = true then some ((1, (c :: r).take (run ltr (c :: r)), 0), run ltr (c :: r)) else none
theorem body_len (s : List UInt8) : (body s).length ≤ s.length ∧ s.length - (body s).length ≤ 1 := by
  unfold body
  cases s with
  | nil => simp
  | cons c r => dsimp only; split <;> simp
theorem num_pos {s : List UInt8} {v : Int} {n : Nat} (hp : pi [] = none) (h : num pi s = some (v, n)) : 1 ≤ n ∧ n ≤ s.length ∧ pi (s.take n) = some v := by
  unfold num at h
  dsimp only at h
  split at h
  · cases h
  · rename_i x hx
    split at h
    · cases h
    · injection h with h
      injection h with h1 h2
      subst h1 h2
      have a := run_le dgt (body s)
      have b := body_len s
      refine ⟨?_, by omega, hx⟩
      rcases Nat.eq_zero_or_pos (s.length - (body s).length + run dgt (body s)) with z | z
      · rw [z, List.take_zero, hp] at hx; cases hx
      · exact z
theorem first_pos {s : List UInt8} {t : Tk} {n : Nat} (hp : pi [] = none) (h : first rd pi s = some (t, n)) : 1 ≤ n ∧ n ≤ s.length := by
  unfold first at h
  cases s with
  | nil => cases h
  | cons c r =>
    dsimp only at h
    split at h
    · injection h with h; injection h with h1 h2; subst h2; simp
    · split at h
      · split at h
        · injection h with h; injection h with h1 h2; subst h2
          have := run_le dlt r
          simp; omega
        · cases h
      · split at h
        · split at h
          · rename_i x hx
            injection h with h; injection h with h1 h2; subst h2
            have := num_pos pi hp (show num pi (c :: r) = some (x.1, x.2) from hx)
            exact ⟨this.1, this.2.1⟩
          · cases h
        · split at h
          · rename_i hn
            injection h with h; injection h with h1 h2; subst h2
            have a := run_le ltr (c :: r)
            have b := of_decide_eq_true hn
            rw [List.length_take] at b
            omega
          · cases h
/-- The words of a line: what is left, where it begins, the words so far. -/
def words (s : List UInt8) (k : Nat) (acc : List Tk) : List Tk × Int := match s with
  | [] => (acc, -1)
  | c :: r => if blk c = true then words r (k + 1) acc else
    match first rd pi (c :: r) with
    | none => ([], (k : Int))
    | some (t, n) => words (r.drop (n - 1)) (k + n) (acc ++ [t])
termination_by s.length
decreasing_by all_goals (simp; try omega)
theorem words_nil (k : Nat) (acc : List Tk) : words rd pi [] k acc = (acc, -1) := by rw [words]
theorem words_blank {c : UInt8} (h : blk c = true) (r : List UInt8) (k : Nat) (acc : List Tk) : words rd pi (c :: r) k acc = words rd pi r (k + 1) acc := by rw [words, if_pos h]
theorem words_none {c : UInt8} {r : List UInt8} (h : blk c = false) (hf : first rd pi (c :: r) = none) (k : Nat) (acc : List Tk) : words rd pi (c :: r) k acc = ([], (k : Int)) := by rw [words, if_neg (by rw [h]; decide), hf]
theorem words_some {c : UInt8} {r : List UInt8} {t : Tk} {n : Nat} (h : blk c = false) (hf : first rd pi (c :: r) = some (t, n)) (k : Nat) (acc : List Tk) : words rd pi (c :: r) k acc = words rd pi (r.drop (n - 1)) (k + n) (acc ++ [t]) := by rw [words, if_neg (by rw [h]; decide), hf]
end Lx
end Go.Proofs.YtimjendkpjojoaaDoor
