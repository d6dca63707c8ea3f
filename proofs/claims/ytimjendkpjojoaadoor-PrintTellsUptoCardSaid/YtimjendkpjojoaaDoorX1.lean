/- The line of an expression, plainly. -/
import Derived.Test.YtimjendkpjojoaaDoorQ14
import Derived.Test.YtimjendkpjojoaaDoorQ9
import Derived.Lib.ItoaLen
namespace Go.Proofs.YtimjendkpjojoaaDoor
set_option linter.unusedVariables false
set_option linter.unusedSimpArgs false
open Go.ChangeShapes Go.WideShapes Go.ChangeAt Go.RowKit

namespace Lx
/-- Texts behind a bracket, with commas and blanks between. -/
def joinL : List (List UInt8) → List UInt8
  | [] => []
  | i :: r => [40] ++ i ++ (r.map (fun j => [44, 32] ++ j)).flatten
def sepJ (its : List (List UInt8)) : List UInt8 := if its = [] then [40] else [44, 32]
theorem join_snoc (its : List (List UInt8)) (i : List UInt8) : joinL (its ++ [i]) = joinL its ++ sepJ its ++ i := by
  cases its with
  | nil => simp [joinL, sepJ]
  | cons a r => simp [joinL, sepJ]
theorem join_take (its : List (List UInt8)) (j : Nat) (h : j < its.length) : joinL (its.take (j + 1)) = joinL (its.take j) ++ sepJ (its.take j) ++ its[j] := by
  rw [List.take_succ_eq_append_getElem h, join_snoc]
theorem sep_take (its : List (List UInt8)) (j : Nat) (h : j < its.length) : sepJ (its.take j) = if j = 0 then [40] else [44, 32] := by
  unfold sepJ
  by_cases e : j = 0
  · subst e; simp
  · rw [if_neg e, if_neg]
    intro q
    have := congrArg List.length q
    rw [List.length_take, List.length_nil] at this
    omega
theorem join_len (its : List (List UInt8)) (j : Nat) : (joinL (its.take j)).length ≤ (joinL its).length := by
  cases its with
  | nil => simp
  | cons a r =>
    cases j with
    | zero => simp [joinL]
    | succ j =>
      rw [List.take_succ_cons]
      unfold joinL
      have := congrArg (fun l : List (List UInt8) => (l.map (fun i => [44, 32] ++ i)).flatten.length) (List.take_append_drop j r)
      simp only [List.map_append, List.flatten_append, List.length_append] at this ⊢
      omega
mutual
def lineX : Ex → List UInt8
  | .mk o nm nu xs => if o = 0 then nm else opW.getD (o.toNat - 1) [] ++ (joinL (nu.map Lib.itoa ++ linesX xs) ++ [41])
def linesX : List Ex → List (List UInt8)
  | [] => []
  | x :: r => lineX x :: linesX r
end
theorem lines_map : ∀ xs : List Ex, linesX xs = xs.map lineX
  | [] => by rw [linesX]; rfl
  | x :: r => by rw [linesX, lines_map r]; rfl
def itemsL (nu : List Int) (xs : List Ex) : List (List UInt8) := nu.map Lib.itoa ++ xs.map lineX
theorem line_leaf (nm : List UInt8) (nu : List Int) (xs : List Ex) : lineX (.mk 0 nm nu xs) = nm := by rw [lineX, if_pos rfl]
theorem line_op {o : Int} (h : ¬ o = 0) (nm : List UInt8) (nu : List Int) (xs : List Ex) : lineX (.mk o nm nu xs) = opW.getD (o.toNat - 1) [] ++ joinL ((itemsL nu xs).take (itemsL nu xs).length) ++ [41] := by
  rw [lineX, if_neg h, lines_map, List.take_length, ← List.append_assoc]; rfl
theorem itemsL_len (nu : List Int) (xs : List Ex) : (itemsL nu xs).length = nu.length + xs.length := by simp [itemsL]
theorem itemsL_num (nu : List Int) (xs : List Ex) (j : Nat) (h : j < nu.length) : (itemsL nu xs)[j]'(by rw [itemsL_len]; omega) = Lib.itoa nu[j] := by
  simp [itemsL, List.getElem_append_left, h]
theorem itemsL_arg (nu : List Int) (xs : List Ex) (j : Nat) (h2 : j < xs.length) : (itemsL nu xs)[nu.length + j]'(by rw [itemsL_len]; omega) = lineX xs[j] := by
  simp [itemsL, List.getElem_append_right]
/-- What was written when j operands were. -/
def preL (o : Int) (nu : List Int) (xs : List Ex) (j : Nat) : List UInt8 := opW.getD (o.toNat - 1) [] ++ joinL ((itemsL nu xs).take j)
theorem preL_zero (o : Int) (nu : List Int) (xs : List Ex) : preL o nu xs 0 = opW.getD (o.toNat - 1) [] := by
  unfold preL; rw [List.take_zero]; simp [joinL]
theorem preL_num (o : Int) (nu : List Int) (xs : List Ex) (j : Nat) (h : j < nu.length) : preL o nu xs (j + 1) = preL o nu xs j ++ (if j = 0 then [40] else [44, 32]) ++ Lib.itoa nu[j] := by
  unfold preL
  have hj : j < (itemsL nu xs).length := by rw [itemsL_len]; omega
  rw [join_take _ j hj, sep_take _ j hj, itemsL_num nu xs j h]; simp only [List.append_assoc]
theorem preL_arg (o : Int) (nu : List Int) (xs : List Ex) (j : Nat) (h : j < xs.length) : preL o nu xs (nu.length + j + 1) = preL o nu xs (nu.length + j) ++ (if nu.length + j = 0 then [40] else [44, 32]) ++ lineX xs[j] := by
  unfold preL
  have hj : nu.length + j < (itemsL nu xs).length := by rw [itemsL_len]; omega
  rw [join_take _ _ hj, sep_take _ _ hj, itemsL_arg nu xs j h]; simp only [List.append_assoc]
theorem preL_len {o : Int} (h : ¬ o = 0) (nm : List UInt8) (nu : List Int) (xs : List Ex) (j : Nat) : (preL o nu xs j).length + 1 ≤ (lineX (.mk o nm nu xs)).length := by
  rw [line_op h, List.take_length]
  unfold preL
  have := join_len (itemsL nu xs) j
  simp only [List.length_append, List.length_cons, List.length_nil]
  omega
theorem line_end {o : Int} (h : ¬ o = 0) (nm : List UInt8) (nu : List Int) (xs : List Ex) : lineX (.mk o nm nu xs) = preL o nu xs (nu.length + xs.length) ++ [41] := by
  rw [line_op h, itemsL_len]; rfl
/-- What an argument's line takes. -/
theorem arg_len {o : Int} (h : ¬ o = 0) (nm : List UInt8) (nu : List Int) (xs : List Ex) (j : Nat) (hj : j < xs.length) : (preL o nu xs (nu.length + j)).length + 1 + (lineX xs[j]).length + 1 ≤ (lineX (.mk o nm nu xs)).length := by
  have a := preL_len h nm nu xs (nu.length + j + 1)
  rw [preL_arg o nu xs j hj] at a
  simp only [List.length_append] at a
  have : 1 ≤ (if nu.length + j = 0 then ([40] : List UInt8) else [44, 32]).length := by split <;> simp
  omega
end Lx
end Go.Proofs.YtimjendkpjojoaaDoor
