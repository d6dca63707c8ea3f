/- The line of a command, plainly. -/
import Derived.Test.YtimjendkpjojoaaDoorX7
namespace Go.Proofs.YtimjendkpjojoaaDoor
set_option linter.unusedVariables false
set_option linter.unusedSimpArgs false
open Go.ChangeShapes Go.WideShapes Go.ChangeAt Go.RowKit

namespace Lx
/-- What a letter of a shape writes. -/
def letL (c : Cm) (x : UInt8) (a b : Nat) : List UInt8 :=
  if x = 110 then c.names.getD a [] else if x = 105 then Lib.itoa (c.nums.getD b 0) else if x = 101 then lineX c.ex else if x = 61 then [61] else rgL c.rg
def shL (c : Cm) : List UInt8 → Nat → Nat → List UInt8
  | [], _, _ => []
  | x :: r, a, b => ([32] ++ letL c x a b) ++ shL c r (a + upN x) (b + upI x)
def lineC (c : Cm) (sh : List UInt8) : List UInt8 := c.word ++ shL c sh 0 0
theorem shL_app (c : Cm) : ∀ (p q : List UInt8) (a b : Nat), shL c (p ++ q) a b = shL c p a b ++ shL c q (a + cN p) (b + cI p)
  | [], q, a, b => by simp [shL, cN, cI]
  | x :: r, q, a, b => by
    rw [List.cons_append, shL, shL, shL_app c r q, cN, cI]
    simp only [Nat.add_assoc, List.append_assoc]
theorem shL_step (c : Cm) (sh : List UInt8) (j : Nat) (h : j < sh.length) : shL c (sh.take (j + 1)) 0 0 = shL c (sh.take j) 0 0 ++ ([32] ++ letL c sh[j] (cN (sh.take j)) (cI (sh.take j))) := by
  rw [List.take_succ_eq_append_getElem h, shL_app]; simp [shL]
/-- How long. -/
theorem letL_len {c : Cm} {B : Nat} (hn : ∀ x ∈ c.names, x.length ≤ 30) (hm : ∀ z ∈ c.nums, -9223372036854775808 ≤ z ∧ z ≤ 9223372036854775807) (hr : (-9223372036854775808 ≤ c.rg.low ∧ c.rg.low ≤ 9223372036854775807) ∧ (-9223372036854775808 ≤ c.rg.high ∧ c.rg.high ≤ 9223372036854775807)) (x : UInt8) (hx : x = 101 → (lineX c.ex).length ≤ B) (a b : Nat) : (letL c x a b).length ≤ B + 100 := by
  unfold letL
  split
  · rw [List.getD_eq_getElem?_getD]
    cases e : c.names[a]? with
    | none => simp
    | some s => have := hn s (List.mem_of_getElem? e); simp; omega
  · split
    · rw [List.getD_eq_getElem?_getD]
      cases e : c.nums[b]? with
      | none => have := Lib.itoa_length_le 0 (by omega) (by omega); simp; omega
      | some z => have h := hm z (List.mem_of_getElem? e); have := Lib.itoa_length_le z h.1 h.2; simp; omega
    · split
      · rename_i e; have := hx e; omega
      · split
        · simp
        · have h1 := Lib.itoa_length_le c.rg.low hr.1.1 hr.1.2
          have h2 := Lib.itoa_length_le c.rg.high hr.2.1 hr.2.2
          unfold rgL
          simp only [List.length_append, List.length_cons, List.length_nil]
          split <;> split <;> simp <;> omega
theorem shL_len {c : Cm} {B : Nat} (hn : ∀ x ∈ c.names, x.length ≤ 30) (hm : ∀ z ∈ c.nums, -9223372036854775808 ≤ z ∧ z ≤ 9223372036854775807) (hr : (-9223372036854775808 ≤ c.rg.low ∧ c.rg.low ≤ 9223372036854775807) ∧ (-9223372036854775808 ≤ c.rg.high ∧ c.rg.high ≤ 9223372036854775807)) : ∀ (sh : List UInt8), (101 ∈ sh → (lineX c.ex).length ≤ B) → ∀ a b, (shL c sh a b).length ≤ (B + 101) * sh.length
  | [], _, a, b => by simp [shL]
  | x :: r, h, a, b => by
    have e1 := letL_len hn hm hr x (fun e => h (by rw [e]; exact List.mem_cons_self)) a b (B := B)
    have e2 := shL_len hn hm hr r (fun e => h (List.mem_cons_of_mem _ e)) (a + upN x) (b + upI x)
    rw [shL]
    simp only [List.length_append, List.length_cons, List.length_nil]
    rw [Nat.mul_add]
    omega
end Lx
end Go.Proofs.YtimjendkpjojoaaDoor
