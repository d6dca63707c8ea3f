/- Contracts over networks that came in as they are: Holds (the program's, the document's); New out of its sizes. -/
import Derived.Test.YtnhbinghinlhgaaT2
import Derived.Test.YtnhbinghinlhgaaT3
import Derived.BigRegion
namespace Go.Proofs.Ytnhbinghinlhgaa
set_option linter.unusedVariables false
set_option linter.unusedSimpArgs false
open Go.ChangeShapes Go.WideShapes Go.ChangeAt Go.RowKit

theorem new_wrong (n : Int) (h : n < 0 ∨ 24 < n) (w : World) :
    Calls Try.prog 9 #[.int .i64 n] w fun e w' => e = .returned (.tuple #[.slice none 0 0, .int .i64 2]) ∧ Below w.heap.size w w' := by
  by_cases h1 : n < 0
  · clear h
    go_enter Try.func9, Try.ntmps9
    go_wp2
    go_returns
    exact ⟨rfl, by go_grown⟩
  · have h2 : 24 < n := by omega
    clear h
    go_enter Try.func9, Try.ntmps9
    go_wp2
    go_returns
    exact ⟨rfl, by go_grown⟩
/-- Numbers that don't fit, or a network that is not right. -/
theorem holds_false (ao : Option Addr) (N k : Nat) (ra : Nat → Option Addr) (L c : Nat → Nat) (X Y : Nat → Nat → Int) (ta : Option Addr) (m tc : Nat) (w : World) (hw : RawNet w ao N k ra L c X Y) (h : ¬ (RightIs N L X Y ∧ m = N)) :
    Calls Try.prog 12 #[.slice ao N k, .slice ta m tc] w fun e w' => e = .returned (.bool false) ∧ Below w.heap.size w w' := by
  by_cases hr : RightIs N L X Y
  · have R := Lib.hid (right_raw ao N k ra L c X Y w hw true ⟨fun _ => hr, fun _ => rfl⟩)
    have t2 : ((m : Int) != (N : Int)) = true := by have : m ≠ N := fun e => h ⟨hr, e⟩; simp; omega
    clear h hr hw
    go_enter Try.func12, Try.ntmps12
    go_wp2_with (go_at_call 11; (with_reducible refine (R.out).mono ?_); rintro e w1 ⟨rfl, b1⟩)
    go_returns
    exact ⟨rfl, b1⟩
  · have R := Lib.hid (right_raw ao N k ra L c X Y w hw false ⟨fun e => (by cases e), fun e => absurd e hr⟩)
    clear h hr hw
    go_enter Try.func12, Try.ntmps12
    go_wp2_with (go_at_call 11; (with_reducible refine (R.out).mono ?_); rintro e w1 ⟨rfl, b1⟩)
    go_returns
    exact ⟨rfl, b1⟩
theorem rholds_false (ao : Option Addr) (N k : Nat) (ra : Nat → Option Addr) (L c : Nat → Nat) (X Y : Nat → Nat → Int) (ta : Option Addr) (m tc : Nat) (w : World) (hw : RawNet w ao N k ra L c X Y) (h : ¬ (RightIs N L X Y ∧ m = N)) :
    Calls Try.prog 13 #[.slice ao N k, .slice ta m tc] w fun e w' => e = .returned (.bool false) ∧ Below w.heap.size w w' := by
  by_cases hr : RightIs N L X Y
  · have R := Lib.hid (rright_raw ao N k ra L c X Y w hw true ⟨fun _ => hr, fun _ => rfl⟩)
    have t2 : ((m : Int) != (N : Int)) = true := by have : m ≠ N := fun e => h ⟨hr, e⟩; simp; omega
    clear h hr hw
    go_enter Try.func13, Try.ntmps13
    go_wp2_with (go_at_call 10; (with_reducible refine (R.out).mono ?_); rintro e w1 ⟨rfl, b1⟩)
    go_returns
    exact ⟨rfl, b1⟩
  · have R := Lib.hid (rright_raw ao N k ra L c X Y w hw false ⟨fun e => (by cases e), fun e => absurd e hr⟩)
    clear h hr hw
    go_enter Try.func13, Try.ntmps13
    go_wp2_with (go_at_call 10; (with_reducible refine (R.out).mono ?_); rintro e w1 ⟨rfl, b1⟩)
    go_returns
    exact ⟨rfl, b1⟩
/-- Nothing to hold. -/
theorem holds_zero (ao : Option Addr) (k : Nat) (ra : Nat → Option Addr) (L c : Nat → Nat) (X Y : Nat → Nat → Int) (ta : Option Addr) (tc : Nat) (w : World) (hw : RawNet w ao 0 k ra L c X Y) :
    Calls Try.prog 12 #[.slice ao 0 k, .slice ta 0 tc] w fun e w' => e = .returned (.bool true) ∧ Below w.heap.size w w' := by
  have R := Lib.hid (right_raw ao 0 k ra L c X Y w hw true ⟨fun _ => ⟨by decide, fun i h => absurd h (Nat.not_lt_zero _)⟩, fun _ => rfl⟩)
  clear hw
  go_enter Try.func12, Try.ntmps12
  go_wp2_with (go_at_call 11; (with_reducible refine (R.out).mono ?_); rintro e w1 ⟨rfl, b1⟩)
  go_loopw [20] (fun ii wr => ii = .int .i64 0 ∧ wr = w1) (fun ii _ => 0)
  case atStart => exact ⟨rfl, rfl⟩
  case round =>
    obtain ⟨rfl, rfl⟩ := hrel
    go_wp2
    go_returns
    exact ⟨rfl, b1⟩
theorem rholds_zero (ao : Option Addr) (k : Nat) (ra : Nat → Option Addr) (L c : Nat → Nat) (X Y : Nat → Nat → Int) (ta : Option Addr) (tc : Nat) (w : World) (hw : RawNet w ao 0 k ra L c X Y) :
    Calls Try.prog 13 #[.slice ao 0 k, .slice ta 0 tc] w fun e w' => e = .returned (.bool true) ∧ Below w.heap.size w w' := by
  have R := Lib.hid (rright_raw ao 0 k ra L c X Y w hw true ⟨fun _ => ⟨by decide, fun i h => absurd h (Nat.not_lt_zero _)⟩, fun _ => rfl⟩)
  clear hw
  go_enter Try.func13, Try.ntmps13
  go_wp2_with (go_at_call 10; (with_reducible refine (R.out).mono ?_); rintro e w1 ⟨rfl, b1⟩)
  go_loopw [5] (fun ii wr => ii = .int .i64 0 ∧ wr = w1) (fun ii _ => 0)
  case atStart => exact ⟨rfl, rfl⟩
  case round =>
    obtain ⟨rfl, rfl⟩ := hrel
    go_wp2
    go_returns
    exact ⟨rfl, b1⟩
/-- A network as the program lays one, seen as one that came in. -/
theorem net_raw {w : World} {g o n k : Nat} {b p c : Nat → Nat} {M : Mat} (h : NetAt w g o n b p c M) (hk : n ≤ k) (hl : k ≤ 9223372036854775807) :
    RawNet w (some ⟨g, o, none⟩) n k (fun i => some ⟨b i, p i, none⟩) (fun _ => n) c (fun i j => infOf (M i j)) (fun i j => numOf (M i j)) :=
  ⟨hk, hl, (by intro e; cases e), fun _ => ⟨g, o, rfl, h.row⟩, fun i hi => ⟨(h.cap i hi).1, (h.cap i hi).2, (by intro e; cases e)⟩, fun i hi _ => ⟨b i, p i, rfl, (h.cells i hi).inf, (h.cells i hi).num⟩⟩
theorem net_right {n : Nat} {M : Mat} (hn : n ≤ 24) (hM : Fits n M) : RightIs n (fun _ => n) (fun i j => infOf (M i j)) (fun i j => numOf (M i j)) :=
  ⟨hn, fun i hi => ⟨rfl, fun j hj => by
    have f := hM i j hi hj
    show allowedB (infOf (M i j)) (numOf (M i j)) = true
    cases e : M i j with
    | none => rfl
    | some a => rw [e] at f; exact (allowedB_iff _ _).2 (.inr ⟨rfl, f⟩)⟩⟩
end Go.Proofs.Ytnhbinghinlhgaa
