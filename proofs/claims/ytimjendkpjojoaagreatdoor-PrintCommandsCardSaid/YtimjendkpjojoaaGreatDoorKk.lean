/- X1, X2 in one. -/
import Derived.Test.YtimjendkpjojoaaGreatDoorKi
import Derived.Test.YtimjendkpjojoaaGreatDoorKj
import Derived.Lib.ItoaLen
import Derived.Test.YtimjendkpjojoaaGreatDoorKg
import Derived.Test.YtimjendkpjojoaaGreatDoorKh
import Derived.Lib.OthersKept
import Derived.Lib.LaidTab
namespace Go.Proofs.YtimjendkpjojoaaGreatDoor
set_option linter.unusedVariables false
set_option linter.unusedSimpArgs false
open Go.ChangeShapes Go.WideShapes Go.ChangeAt Go.RowKit

namespace Lx
/-- Texts behind a bracket, with commas and blanks between. -/
def lnL : List (List UInt8) → List UInt8
  | [] => []
  | i :: r => [40] ++ i ++ (r.map (fun j => [44, 32] ++ j)).flatten
def sepJ (its : List (List UInt8)) : List UInt8 := if its = [] then [40] else [44, 32]
theorem lnL_snoc (its : List (List UInt8)) (i : List UInt8) : lnL (its ++ [i]) = lnL its ++ sepJ its ++ i := by
  cases its with
  | nil => simp [lnL, sepJ]
  | cons a r => simp [lnL, sepJ]
theorem lnL_take (its : List (List UInt8)) (j : Nat) (h : j < its.length) : lnL (its.take (j + 1)) = lnL (its.take j) ++ sepJ (its.take j) ++ its[j] := by
  rw [List.take_succ_eq_append_getElem h, lnL_snoc]
theorem sep_take (its : List (List UInt8)) (j : Nat) (h : j < its.length) : sepJ (its.take j) = if j = 0 then [40] else [44, 32] := by
  unfold sepJ
  by_cases e : j = 0
  · subst e; simp
  · rw [if_neg e, if_neg]
    intro q
    have := congrArg List.length q
    rw [List.length_take, List.length_nil] at this
    omega
theorem lnL_len (its : List (List UInt8)) (j : Nat) : (lnL (its.take j)).length ≤ (lnL its).length := by
  cases its with
  | nil => simp
  | cons a r =>
    cases j with
    | zero => simp [lnL]
    | succ j =>
      rw [List.take_succ_cons]
      unfold lnL
      have := congrArg (fun l : List (List UInt8) => (l.map (fun i => [44, 32] ++ i)).flatten.length) (List.take_append_drop j r)
      simp only [List.map_append, List.flatten_append, List.length_append] at this ⊢
      omega
mutual
def lineX : Ex → List UInt8
  | .mk o nm nu xs => if o = 0 then nm else opW.getD (o.toNat - 1) [] ++ (lnL (nu.map Lib.itoa ++ linesX xs) ++ [41])
def linesX : List Ex → List (List UInt8)
  | [] => []
  | x :: r => lineX x :: linesX r
end
theorem lines_map : ∀ xs : List Ex, linesX xs = xs.map lineX
  | [] => by rw [linesX]; rfl
  | x :: r => by rw [linesX, lines_map r]; rfl
def itemsL (nu : List Int) (xs : List Ex) : List (List UInt8) := nu.map Lib.itoa ++ xs.map lineX
theorem line_leaf (nm : List UInt8) (nu : List Int) (xs : List Ex) : lineX (.mk 0 nm nu xs) = nm := by rw [lineX, if_pos rfl]
theorem line_op {o : Int} (h : ¬ o = 0) (nm : List UInt8) (nu : List Int) (xs : List Ex) : lineX (.mk o nm nu xs) = opW.getD (o.toNat - 1) [] ++ lnL ((itemsL nu xs).take (itemsL nu xs).length) ++ [41] := by
  rw [lineX, if_neg h, lines_map, List.take_length, ← List.append_assoc]; rfl
theorem itemsL_len (nu : List Int) (xs : List Ex) : (itemsL nu xs).length = nu.length + xs.length := by simp [itemsL]
theorem itemsL_num (nu : List Int) (xs : List Ex) (j : Nat) (h : j < nu.length) : (itemsL nu xs)[j]'(by rw [itemsL_len]; omega) = Lib.itoa nu[j] := by
  simp [itemsL, List.getElem_append_left, h]
theorem itemsL_arg (nu : List Int) (xs : List Ex) (j : Nat) (h2 : j < xs.length) : (itemsL nu xs)[nu.length + j]'(by rw [itemsL_len]; omega) = lineX xs[j] := by
  simp [itemsL, List.getElem_append_right]
/-- What was written when j operands were. -/
def preL (o : Int) (nu : List Int) (xs : List Ex) (j : Nat) : List UInt8 := opW.getD (o.toNat - 1) [] ++ lnL ((itemsL nu xs).take j)
theorem preL_zero (o : Int) (nu : List Int) (xs : List Ex) : preL o nu xs 0 = opW.getD (o.toNat - 1) [] := by
  unfold preL; rw [List.take_zero]; simp [lnL]
theorem preL_num (o : Int) (nu : List Int) (xs : List Ex) (j : Nat) (h : j < nu.length) : preL o nu xs (j + 1) = preL o nu xs j ++ (if j = 0 then [40] else [44, 32]) ++ Lib.itoa nu[j] := by
  unfold preL
  have hj : j < (itemsL nu xs).length := by rw [itemsL_len]; omega
  rw [lnL_take _ j hj, sep_take _ j hj, itemsL_num nu xs j h]; simp only [List.append_assoc]
theorem preL_arg (o : Int) (nu : List Int) (xs : List Ex) (j : Nat) (h : j < xs.length) : preL o nu xs (nu.length + j + 1) = preL o nu xs (nu.length + j) ++ (if nu.length + j = 0 then [40] else [44, 32]) ++ lineX xs[j] := by
  unfold preL
  have hj : nu.length + j < (itemsL nu xs).length := by rw [itemsL_len]; omega
  rw [lnL_take _ _ hj, sep_take _ _ hj, itemsL_arg nu xs j h]; simp only [List.append_assoc]
theorem preL_len {o : Int} (h : ¬ o = 0) (nm : List UInt8) (nu : List Int) (xs : List Ex) (j : Nat) : (preL o nu xs j).length + 1 ≤ (lineX (.mk o nm nu xs)).length := by
  rw [line_op h, List.take_length]
  unfold preL
  have := lnL_len (itemsL nu xs) j
  simp only [List.length_append, List.length_cons, List.length_nil]
  omega
theorem line_end {o : Int} (h : ¬ o = 0) (nm : List UInt8) (nu : List Int) (xs : List Ex) : lineX (.mk o nm nu xs) = preL o nu xs (nu.length + xs.length) ++ [41] := by
  rw [line_op h, itemsL_len]; rfl
/-- What an argument's line takes. -/
theorem arg_len {o : Int} (h : ¬ o = 0) (nm : List UInt8) (nu : List Int) (xs : List Ex) (j : Nat) (hj : j < xs.length) : (preL o nu xs (nu.length + j)).length + 1 + (lineX xs[j]).length + 1 ≤ (lineX (.mk o nm nu xs)).length := by
  have a := preL_len h nm nu xs (nu.length + j + 1)
  rw [preL_arg o nu xs j hj] at a
  simp only [List.length_append] at a
  have : 1 ≤ (if nu.length + j = 0 then ([40] : List UInt8) else [44, 32]).length := by split <;> simp
  omega
end Lx

def opP (i : Nat) : List UInt8 := if i = 0 then [] else Lx.opW.getD (i - 1) []
/-- The tables that printing reads. -/
structure Tp (w : World) : Prop where
  needs : Tabn w
  words : ∀ i, i < 13 → w.cell? ⟨0, i, none⟩ = some (.string ⟨(opP i).toArray⟩)
  pow : Lib.TabIs Tryz.prog w "internal/strconv.uint64pow10" .u64 Lib.pow10Tab
theorem var_keep {w w' : World} {nm : String} {cs : Array Value} (h : w.var? Tryz.prog nm = some cs) (q : Below w.heap.size w w') : w'.var? Tryz.prog nm = some cs := by
  unfold World.var? at *
  cases hg : Tryz.prog.globalNamed nm with
  | none => simp [hg] at h
  | some g =>
    simp only [hg, Option.bind_some] at h ⊢
    have hlt : g < w.heap.size := by
      rcases Nat.lt_or_ge g w.heap.size with h' | h'
      · exact h'
      · rw [Array.getElem?_eq_none h'] at h; simp at h
    rw [q.block g hlt]
    exact h
theorem Tp.keep {w w' : World} (h : Tp w) (q : Below w.heap.size w w') : Tp w' := ⟨h.needs.keep q, fun i hi => cell_keep (h.words i hi) q, var_keep h.pow q⟩
/-- A builder that the call has made, and what it holds. -/
structure PrS (w0 W : World) (b : Nat) (acc : List UInt8) : Prop where
  bw : Below w0.heap.size w0 W
  lo : w0.heap.size ≤ b
  ib : Lib.IsBuilderF 56 5 b b (Lib.byteCells acc) W
theorem PrS.lt {w0 W : World} {b : Nat} {acc : List UInt8} (h : PrS w0 W b acc) : b < W.heap.size := by
  rcases h.ib with ⟨_, v, hb, _⟩ | ⟨_, v, hb, _⟩ <;> exact (Array.getElem?_eq_some_iff.1 hb).1
theorem at_below {p : Value} {b : Nat} {bs : List Value} {W W' : World} (h : Lib.BuilderAtF 56 5 b b p bs W) (q : Below W.heap.size W W') : Lib.BuilderAtF 56 5 b b p bs W' := by
  obtain ⟨h1, v, hv, hown, hne⟩ := h
  exact ⟨h1, v, (q.block b (Array.getElem?_eq_some_iff.1 hv).1).trans hv, hown.kept (row := none) ⟨q.os, q.tape, q.output, q.size, fun k hk _ => q.block k hk⟩ (Classical.em _), hne⟩
theorem PrS.keep {w0 W W' : World} {b : Nat} {acc : List UInt8} (h : PrS w0 W b acc) (q : Below W.heap.size W W') : PrS w0 W' b acc :=
  ⟨h.bw.trans (q.mono h.bw.size), h.lo, h.ib.elim (fun x => .inl (at_below x q)) (fun x => .inr (at_below x q))⟩
theorem ok_below {W W' : World} {r : Option Nat} (q : Below W.heap.size W W') : Lib.OthersKept 5 r W W' := fun k o hk _ _ => (q.block k (Array.getElem?_eq_some_iff.1 hk).1).trans hk
theorem ok_blk {W W' : World} {b k : Nat} {cs : Array Value} {t : TypeId} (h : Lib.OthersKept 5 (some b) W W') (hk : W.heap[k]? = some (.cells cs t (0, 0))) (ht : t ≠ 5) (hb : k ≠ b) : W'.heap[k]? = some (.cells cs t (0, 0)) :=
  h k _ hk (fun e => hb (Option.some.inj e)) (fun c fz e => by injection e with _ e; exact ht e)
/-- WriteString. -/
theorem ws_any (w0 W : World) (b : Nat) (acc : List UInt8) (s : ByteArray) (h : PrS w0 W b acc) (hl : acc.length + s.size ≤ 140737488355328) :
    Calls Tryz.prog 29 #[.pointer (some ⟨b, 0, none⟩), .string s] W fun e w' => e = .returned (.tuple #[.int .i64 s.size, .nilIface]) ∧ Hid (PrS w0 w' b (acc ++ s.data.toList)) ∧ Hid (Lib.OthersKept 5 (some b) W w') := by
  refine (Tryz.Builder_WriteString_k b b (Lib.byteCells acc) s W h.ib (by rw [Lib.byteCells_length]; exact hl) (Nat.le_of_lt h.lt)).mono ?_
  rintro e w' ⟨rfl, h1, h2, h3⟩
  refine ⟨rfl, Lib.hid ⟨h.bw.trans (h2.mono h.lo), h.lo, .inr ?_⟩, Lib.hid h3⟩
  rw [Lib.byteCells_append]; exact h1
theorem fmt_any (n : Int) (h0 : -9223372036854775808 ≤ n) (h1 : n ≤ 9223372036854775807) (w : World) (hT : Tp w) :
    Calls Tryz.prog 31 #[.int .i64 n, .int .i64 10] w fun e w' => e = .returned (.string ⟨(Lib.itoa n).toArray⟩) ∧ Below w.heap.size w w' := by
  refine (Tryz.strconv_FormatInt_10 n h0 h1 w hT.pow).mono ?_
  rintro e w' ⟨rfl, k, os, rfl⟩
  refine ⟨rfl, ?_⟩
  exact ⟨rfl, rfl, rfl, by show w.heap.size ≤ (w.heap ++ os).size; simp, fun j hj => by show (w.heap ++ os)[j]? = _; rw [Array.getElem?_append_left hj]⟩
end Go.Proofs.YtimjendkpjojoaaGreatDoor
