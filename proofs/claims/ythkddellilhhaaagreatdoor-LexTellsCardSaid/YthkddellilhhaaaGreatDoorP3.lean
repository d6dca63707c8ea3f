/- Right tokens' texts are read back, plainly. -/
import Derived.Test.YthkddellilhhaaaGreatDoorP2
namespace Go.Proofs.YthkddellilhhaaaGreatDoor
set_option linter.unusedVariables false
set_option linter.unusedSimpArgs false
namespace Lx
variable (rd pi : List UInt8 → Option Int)
/-- A text that is one word, and no blank ahead. -/
structure One (s : List UInt8) (t : Tk) : Prop where
  first : first rd pi s = some (t, s.length)
  head : ∃ c r, s = c :: r ∧ blk c = false
theorem word_one {s : List UInt8} {t : Tk} (h : One rd pi s t) (k : Nat) (acc : List Tk) : words rd pi s k acc = (acc ++ [t], -1) := by
  obtain ⟨c, r, rfl, hb⟩ := h.head
  rw [words_some rd pi hb h.first]
  have e : r.drop ((c :: r).length - 1) = [] := by apply List.drop_of_length_le; simp
  rw [e, words_nil]
theorem word_more {s : List UInt8} {t : Tk} (h : One rd pi s t) {b : UInt8} (hb : blk b = true) (q : List UInt8) (k : Nat) (acc : List Tk) : words rd pi (s ++ b :: q) k acc = words rd pi q (k + s.length + 1) (acc ++ [t]) := by
  have hf := first_app rd pi (s := s) (by obtain ⟨c, r, rfl, _⟩ := h.head; simp) hb q
  obtain ⟨c, r, rfl, hc⟩ := h.head
  rw [h.first] at hf
  rw [List.cons_append] at hf ⊢
  rw [words_some rd pi hc hf]
  have e : (r ++ b :: q).drop ((c :: r).length - 1) = b :: q := by
    rw [show (c :: r).length - 1 = r.length by simp]
    exact List.drop_left
  rw [e, words_blank rd pi hb]
/-- Words with a blank between any two. -/
def joinL : List (List UInt8) → List UInt8
  | [] => []
  | [x] => x
  | x :: y :: r => x ++ 32 :: joinL (y :: r)
theorem words_join : ∀ (l : List (List UInt8 × Tk)), (∀ x ∈ l, One rd pi x.1 x.2) → ∀ (k : Nat) (acc : List Tk), words rd pi (joinL (l.map (fun x => x.1))) k acc = (acc ++ l.map (fun x => x.2), -1)
  | [], _, k, acc => by simp [joinL, words_nil]
  | [x], h, k, acc => by
    have := word_one rd pi (h x List.mem_cons_self) k acc
    simpa [joinL] using this
  | x :: y :: r, h, k, acc => by
    have ih := words_join (y :: r) (fun z hz => h z (List.mem_cons_of_mem _ hz))
    show words rd pi (x.1 ++ 32 :: joinL ((y :: r).map (fun x => x.1))) k acc = _
    rw [word_more rd pi (h x List.mem_cons_self) (by decide), ih]
    simp
/-- Texts with a blank between: the first one's words, or its error, then the other's. -/
theorem words_app (hp : pi [] = none) : ∀ (N : Nat) (s : List UInt8), s.length ≤ N → ∀ {b : UInt8}, blk b = true → ∀ (q : List UInt8) (k : Nat) (acc : List Tk), words rd pi (s ++ b :: q) k acc = if (words rd pi s k acc).2 < 0 then words rd pi q (k + s.length + 1) (words rd pi s k acc).1 else words rd pi s k acc
  | N, [], _, b, hb, q, k, acc => by rw [List.nil_append, words_blank rd pi hb, words_nil]; simp
  | 0, c :: r, h, _, _, _, _, _ => by simp at h
  | N + 1, c :: r, h, b, hb, q, k, acc => by
    have hr : r.length ≤ N := by simpa using h
    cases hc : blk c
    · have ha := first_app rd pi (s := c :: r) (by simp) hb q
      cases hf : first rd pi (c :: r) with
      | none =>
        rw [hf] at ha
        rw [List.cons_append] at ha ⊢
        rw [words_none rd pi hc ha, words_none rd pi hc hf, if_neg (by dsimp only; omega)]
      | some x =>
        obtain ⟨t, n⟩ := x
        rw [hf] at ha
        rw [List.cons_append] at ha ⊢
        rw [words_some rd pi hc ha, words_some rd pi hc hf]
        have hpos := first_pos rd pi hp hf
        have hn : n - 1 ≤ r.length := by have := hpos.2; simp at this; omega
        rw [List.drop_append_of_le_length hn, words_app hp N _ (by rw [List.length_drop]; omega) hb]
        rw [show k + n + (r.drop (n - 1)).length + 1 = k + (c :: r).length + 1 by rw [List.length_drop]; simp; omega]
    · rw [List.cons_append, words_blank rd pi hc, words_blank rd pi hc, words_app hp N r hr hb]
      rw [show k + 1 + r.length + 1 = k + (c :: r).length + 1 by simp; omega]
end Lx
end Go.Proofs.YthkddellilhhaaaGreatDoor
