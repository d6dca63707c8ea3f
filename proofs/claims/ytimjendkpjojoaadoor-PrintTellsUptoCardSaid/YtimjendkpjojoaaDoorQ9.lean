/- The words of a command, plainly. -/
import Derived.Test.YtimjendkpjojoaaDoorQ8
namespace Go.Proofs.YtimjendkpjojoaaDoor
set_option linter.unusedVariables false
set_option linter.unusedSimpArgs false
open Go.ChangeShapes Go.WideShapes Go.ChangeAt Go.RowKit

namespace Lx
def rgW (r : Rg) : List Tk := (4, [91], 0) :: ((if r.hl = true then [(2, [], r.low)] else []) ++ (4, [58], 0) :: ((if r.hh = true then [(2, [], r.high)] else []) ++ [(4, [93], 0)]))
/-- The words of a shape's letter. -/
def letW (c : Cm) (x : UInt8) (a b : Nat) : List Tk :=
  if x = 110 then [(1, c.names.getD a [], 0)] else if x = 105 then [(2, [], c.nums.getD b 0)] else if x = 101 then wordsX c.ex else if x = 61 then [(4, [61], 0)] else rgW c.rg
def upN (x : UInt8) : Nat := if x = 110 then 1 else 0
def upI (x : UInt8) : Nat := if x = 105 then 1 else 0
def cN : List UInt8 → Nat
  | [] => 0
  | x :: r => upN x + cN r
def cI : List UInt8 → Nat
  | [] => 0
  | x :: r => upI x + cI r
def shW (c : Cm) : List UInt8 → Nat → Nat → List Tk
  | [], _, _ => []
  | x :: r, a, b => letW c x a b ++ shW c r (a + upN x) (b + upI x)
def toldC (c : Cm) (sh : List UInt8) : List Tk := (1, c.word, 0) :: shW c sh 0 0
theorem shW_app (c : Cm) : ∀ (p q : List UInt8) (a b : Nat), shW c (p ++ q) a b = shW c p a b ++ shW c q (a + cN p) (b + cI p)
  | [], q, a, b => by rw [shW, cN, cI]; rfl
  | x :: r, q, a, b => by
    rw [List.cons_append, shW, shW, shW_app c r q, cN, cI, List.append_assoc, Nat.add_assoc, Nat.add_assoc]
theorem cN_app : ∀ p q : List UInt8, cN (p ++ q) = cN p + cN q
  | [], q => by rw [cN]; simp
  | x :: r, q => by rw [List.cons_append, cN, cN, cN_app r q]; omega
theorem cI_app : ∀ p q : List UInt8, cI (p ++ q) = cI p + cI q
  | [], q => by rw [cI]; simp
  | x :: r, q => by rw [List.cons_append, cI, cI, cI_app r q]; omega
theorem cN_len : ∀ p : List UInt8, cN p ≤ p.length
  | [] => Nat.le_refl _
  | x :: r => by have := cN_len r; rw [cN, List.length_cons]; unfold upN; split <;> omega
theorem cI_len : ∀ p : List UInt8, cI p ≤ p.length
  | [] => Nat.le_refl _
  | x :: r => by have := cI_len r; rw [cI, List.length_cons]; unfold upI; split <;> omega
theorem shW_step (c : Cm) (sh : List UInt8) (j : Nat) (h : j < sh.length) : shW c (sh.take (j + 1)) 0 0 = shW c (sh.take j) 0 0 ++ letW c sh[j] (cN (sh.take j)) (cI (sh.take j)) := by
  rw [List.take_succ_eq_append_getElem h, shW_app, shW, shW, List.append_nil, Nat.zero_add, Nat.zero_add]
theorem cN_step (sh : List UInt8) (j : Nat) (h : j < sh.length) : cN (sh.take (j + 1)) = cN (sh.take j) + upN sh[j] := by
  rw [List.take_succ_eq_append_getElem h, cN_app, cN, cN]; omega
theorem cI_step (sh : List UInt8) (j : Nat) (h : j < sh.length) : cI (sh.take (j + 1)) = cI (sh.take j) + upI sh[j] := by
  rw [List.take_succ_eq_append_getElem h, cI_app, cI, cI]; omega
theorem cN_take (sh : List UInt8) (j : Nat) (h : j < sh.length) (hx : sh[j] = 110) : cN (sh.take j) < cN sh := by
  have := congrArg cN (List.take_append_drop (j + 1) sh)
  rw [cN_app, cN_step sh j h, hx] at this
  have e : upN 110 = 1 := rfl
  omega
theorem cI_take (sh : List UInt8) (j : Nat) (h : j < sh.length) (hx : sh[j] = 105) : cI (sh.take j) < cI sh := by
  have := congrArg cI (List.take_append_drop (j + 1) sh)
  rw [cI_app, cI_step sh j h, hx] at this
  have e : upI 105 = 1 := rfl
  omega
theorem rgW_len (r : Rg) : (rgW r).length ≤ 5 := by
  unfold rgW; split <;> split <;> simp
theorem letW_len (c : Cm) (x : UInt8) (a b : Nat) (h : x = 101 → (wordsX c.ex).length ≤ 19999) : (letW c x a b).length ≤ 19999 := by
  have := rgW_len c.rg
  unfold letW
  split
  · simp
  · split
    · simp
    · split
      · rename_i e; exact h e
      · split
        · simp
        · omega
theorem shW_len (c : Cm) : ∀ (p : List UInt8) (a b : Nat), (101 ∈ p → (wordsX c.ex).length ≤ 19999) → (shW c p a b).length ≤ 19999 * p.length
  | [], a, b, _ => by rw [shW]; exact Nat.zero_le _
  | x :: r, a, b, h => by
    have h1 := letW_len c x a b (fun e => h (by rw [e]; exact List.mem_cons_self))
    have h2 := shW_len c r (a + upN x) (b + upI x) (fun e => h (List.mem_cons_of_mem _ e))
    rw [shW, List.length_append, List.length_cons]; omega
/-- The shapes that there are. -/
def shapesL : List (List UInt8) := [[110, 61, 101], [110], [110, 105], [110, 110], [110, 110, 105], [110, 110, 110, 114], [105], [105, 105, 105], []]
theorem shape_in {w sh : List UInt8} (h : shape w = some sh) : sh ∈ shapesL := by
  obtain ⟨p, hp, rfl⟩ := shGo_mem shapes w sh h
  have e : ∀ x ∈ shapes, x.2 ∈ shapesL := by decide
  exact e p hp
theorem shape_let {sh : List UInt8} (h : sh ∈ shapesL) : sh.length ≤ 4 ∧ ∀ x ∈ sh, x = 110 ∨ x = 105 ∨ x = 101 ∨ x = 61 ∨ x = 114 := by
  have e : ∀ s ∈ shapesL, s.length ≤ 4 ∧ ∀ x ∈ s, x = 110 ∨ x = 105 ∨ x = 101 ∨ x = 61 ∨ x = 114 := by decide
  exact e sh h
end Lx
end Go.Proofs.YtimjendkpjojoaaDoor
