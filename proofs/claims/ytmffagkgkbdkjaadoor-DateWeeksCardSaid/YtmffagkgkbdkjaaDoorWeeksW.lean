/- DateWeeks: the walks, one a way. -/
import Derived.Test.YtmffagkgkbdkjaaDoorWeeks
namespace Go.Proofs.YtmffagkgkbdkjaaDoor
set_option linter.unusedVariables false
open Go.ChangeShapes Go.WideShapes Go.ChangeAt Go.RowKit

theorem walkAo (n m y : Int) (hn : (n = 9223372036854775807 ∧ m = wrap64 9223372036854775808) ∨ (-9223372036854775808 ≤ n ∧ n < 9223372036854775807 ∧ m = n + 1)) (z v c f : Int)  
    (W1 : Hid (∀ w, Tab w → Calls Tryd.prog 9 #[.int .i64 n] w fun e w' => e = .returned (.tuple #[.int .i64 0, .int .i64 0, .int .i64 0, .int .i64 30]) ∧ w = w'))
    (W2 : Hid (∀ w, Tab w → Calls Tryd.prog 9 #[.int .i64 m] w fun e w' => e = .returned (.tuple #[.int .i64 z, .int .i64 v, .int .i64 c, .int .i64 f]) ∧ w = w'))
    (F1 : Hid (∀ w, Tab w → Calls Tryd.prog 24 #[.int .i64 y, .int .i64 1, .int .i64 4] w fun e w' => e = .returned (.tuple #[.int .i64 0, .int .i64 30]) ∧ w = w'))
    (F2 : Hid (∀ w, Tab w → Calls Tryd.prog 24 #[.int .i64 y, .int .i64 12, .int .i64 28] w fun e w' => e = .returned (.tuple #[.int .i64 0, .int .i64 30]) ∧ w = w'))
    (K2 : Hid (∀ w, Tab w → Calls Tryd.prog 13 #[.int .i64 y] w fun e w' => e = .returned (.int .i64 0) ∧ w = w')) (w : World) (hT : Tabs w) :
    Calls Tryd.prog 5 #[.int .i64 n, .int .i64 y] w fun e w' => e = .returned (.bool true) ∧ Below w.heap.size w w' := by
  have HT := Lib.hid hT
  have HB := Lib.hid hT.1
  clear hT
  rcases hn with ⟨rfl, rfl⟩ | ⟨n0, n1, rfl⟩
  · go_enter Tryd.func5, Tryd.ntmps5
    go_wp2_with (first
      | (go_at_call 9; (with_reducible refine (W1.out _ HB.out).mono ?_); rintro e w' ⟨rfl, rfl⟩)
      | (go_at_call 9; (with_reducible refine (W2.out _ HB.out).mono ?_); rintro e w' ⟨rfl, rfl⟩)
      | (go_at_call 24; (with_reducible refine (F1.out _ HB.out).mono ?_); rintro e w' ⟨rfl, rfl⟩)
      | (go_at_call 24; (with_reducible refine (F2.out _ HB.out).mono ?_); rintro e w' ⟨rfl, rfl⟩)
      | (go_at_call 13; (with_reducible refine (K2.out _ HB.out).mono ?_); rintro e w' ⟨rfl, rfl⟩)
      | (go_at_call 8; (with_reducible refine (awake _ HT.out).mono ?_); rintro e w1 ⟨rfl, b1⟩))
    go_returns
    exact ⟨rfl, b1⟩
  · go_enter Tryd.func5, Tryd.ntmps5
    go_wp2_with (first
      | (go_at_call 9; (with_reducible refine (W1.out _ HB.out).mono ?_); rintro e w' ⟨rfl, rfl⟩)
      | (go_at_call 9; (with_reducible refine (W2.out _ HB.out).mono ?_); rintro e w' ⟨rfl, rfl⟩)
      | (go_at_call 24; (with_reducible refine (F1.out _ HB.out).mono ?_); rintro e w' ⟨rfl, rfl⟩)
      | (go_at_call 24; (with_reducible refine (F2.out _ HB.out).mono ?_); rintro e w' ⟨rfl, rfl⟩)
      | (go_at_call 13; (with_reducible refine (K2.out _ HB.out).mono ?_); rintro e w' ⟨rfl, rfl⟩)
      | (go_at_call 8; (with_reducible refine (awake _ HT.out).mono ?_); rintro e w1 ⟨rfl, b1⟩))
    go_returns
    exact ⟨rfl, b1⟩

theorem walkA52 (n m y : Int) (hn : (n = 9223372036854775807 ∧ m = wrap64 9223372036854775808) ∨ (-9223372036854775808 ≤ n ∧ n < 9223372036854775807 ∧ m = n + 1)) (z v c f : Int) (a b u t : Int) 
    (W1 : Hid (∀ w, Tab w → Calls Tryd.prog 9 #[.int .i64 n] w fun e w' => e = .returned (.tuple #[.int .i64 0, .int .i64 0, .int .i64 0, .int .i64 30]) ∧ w = w'))
    (W2 : Hid (∀ w, Tab w → Calls Tryd.prog 9 #[.int .i64 m] w fun e w' => e = .returned (.tuple #[.int .i64 z, .int .i64 v, .int .i64 c, .int .i64 f]) ∧ w = w'))
    (F1 : Hid (∀ w, Tab w → Calls Tryd.prog 24 #[.int .i64 y, .int .i64 1, .int .i64 4] w fun e w' => e = .returned (.tuple #[.int .i64 a, .int .i64 0]) ∧ w = w'))
    (F2 : Hid (∀ w, Tab w → Calls Tryd.prog 24 #[.int .i64 y, .int .i64 12, .int .i64 28] w fun e w' => e = .returned (.tuple #[.int .i64 b, .int .i64 0]) ∧ w = w'))
    (W3 : Hid (∀ w, Tab w → Calls Tryd.prog 9 #[.int .i64 a] w fun e w' => e = .returned (.tuple #[.int .i64 y, .int .i64 1, .int .i64 u, .int .i64 0]) ∧ w = w'))
    (W4 : Hid (∀ w, Tab w → Calls Tryd.prog 9 #[.int .i64 b] w fun e w' => e = .returned (.tuple #[.int .i64 y, .int .i64 52, .int .i64 t, .int .i64 0]) ∧ w = w'))
    (K2 : Hid (∀ w, Tab w → Calls Tryd.prog 13 #[.int .i64 y] w fun e w' => e = .returned (.int .i64 52) ∧ w = w')) (w : World) (hT : Tabs w) :
    Calls Tryd.prog 5 #[.int .i64 n, .int .i64 y] w fun e w' => e = .returned (.bool true) ∧ Below w.heap.size w w' := by
  have HT := Lib.hid hT
  have HB := Lib.hid hT.1
  clear hT
  rcases hn with ⟨rfl, rfl⟩ | ⟨n0, n1, rfl⟩
  · go_enter Tryd.func5, Tryd.ntmps5
    go_wp2_with (first
      | (go_at_call 9; (with_reducible refine (W1.out _ HB.out).mono ?_); rintro e w' ⟨rfl, rfl⟩)
      | (go_at_call 9; (with_reducible refine (W2.out _ HB.out).mono ?_); rintro e w' ⟨rfl, rfl⟩)
      | (go_at_call 24; (with_reducible refine (F1.out _ HB.out).mono ?_); rintro e w' ⟨rfl, rfl⟩)
      | (go_at_call 24; (with_reducible refine (F2.out _ HB.out).mono ?_); rintro e w' ⟨rfl, rfl⟩)
      | (go_at_call 9; (with_reducible refine (W3.out _ HB.out).mono ?_); rintro e w' ⟨rfl, rfl⟩)
      | (go_at_call 9; (with_reducible refine (W4.out _ HB.out).mono ?_); rintro e w' ⟨rfl, rfl⟩)
      | (go_at_call 13; (with_reducible refine (K2.out _ HB.out).mono ?_); rintro e w' ⟨rfl, rfl⟩)
      | (go_at_call 8; (with_reducible refine (awake _ HT.out).mono ?_); rintro e w1 ⟨rfl, b1⟩))
    go_returns
    exact ⟨rfl, b1⟩
  · go_enter Tryd.func5, Tryd.ntmps5
    go_wp2_with (first
      | (go_at_call 9; (with_reducible refine (W1.out _ HB.out).mono ?_); rintro e w' ⟨rfl, rfl⟩)
      | (go_at_call 9; (with_reducible refine (W2.out _ HB.out).mono ?_); rintro e w' ⟨rfl, rfl⟩)
      | (go_at_call 24; (with_reducible refine (F1.out _ HB.out).mono ?_); rintro e w' ⟨rfl, rfl⟩)
      | (go_at_call 24; (with_reducible refine (F2.out _ HB.out).mono ?_); rintro e w' ⟨rfl, rfl⟩)
      | (go_at_call 9; (with_reducible refine (W3.out _ HB.out).mono ?_); rintro e w' ⟨rfl, rfl⟩)
      | (go_at_call 9; (with_reducible refine (W4.out _ HB.out).mono ?_); rintro e w' ⟨rfl, rfl⟩)
      | (go_at_call 13; (with_reducible refine (K2.out _ HB.out).mono ?_); rintro e w' ⟨rfl, rfl⟩)
      | (go_at_call 8; (with_reducible refine (awake _ HT.out).mono ?_); rintro e w1 ⟨rfl, b1⟩))
    go_returns
    exact ⟨rfl, b1⟩

theorem walkA53 (n m y : Int) (hn : (n = 9223372036854775807 ∧ m = wrap64 9223372036854775808) ∨ (-9223372036854775808 ≤ n ∧ n < 9223372036854775807 ∧ m = n + 1)) (z v c f : Int) (a b u t : Int) 
    (W1 : Hid (∀ w, Tab w → Calls Tryd.prog 9 #[.int .i64 n] w fun e w' => e = .returned (.tuple #[.int .i64 0, .int .i64 0, .int .i64 0, .int .i64 30]) ∧ w = w'))
    (W2 : Hid (∀ w, Tab w → Calls Tryd.prog 9 #[.int .i64 m] w fun e w' => e = .returned (.tuple #[.int .i64 z, .int .i64 v, .int .i64 c, .int .i64 f]) ∧ w = w'))
    (F1 : Hid (∀ w, Tab w → Calls Tryd.prog 24 #[.int .i64 y, .int .i64 1, .int .i64 4] w fun e w' => e = .returned (.tuple #[.int .i64 a, .int .i64 0]) ∧ w = w'))
    (F2 : Hid (∀ w, Tab w → Calls Tryd.prog 24 #[.int .i64 y, .int .i64 12, .int .i64 28] w fun e w' => e = .returned (.tuple #[.int .i64 b, .int .i64 0]) ∧ w = w'))
    (W3 : Hid (∀ w, Tab w → Calls Tryd.prog 9 #[.int .i64 a] w fun e w' => e = .returned (.tuple #[.int .i64 y, .int .i64 1, .int .i64 u, .int .i64 0]) ∧ w = w'))
    (W4 : Hid (∀ w, Tab w → Calls Tryd.prog 9 #[.int .i64 b] w fun e w' => e = .returned (.tuple #[.int .i64 y, .int .i64 53, .int .i64 t, .int .i64 0]) ∧ w = w'))
    (K2 : Hid (∀ w, Tab w → Calls Tryd.prog 13 #[.int .i64 y] w fun e w' => e = .returned (.int .i64 53) ∧ w = w')) (w : World) (hT : Tabs w) :
    Calls Tryd.prog 5 #[.int .i64 n, .int .i64 y] w fun e w' => e = .returned (.bool true) ∧ Below w.heap.size w w' := by
  have HT := Lib.hid hT
  have HB := Lib.hid hT.1
  clear hT
  rcases hn with ⟨rfl, rfl⟩ | ⟨n0, n1, rfl⟩
  · go_enter Tryd.func5, Tryd.ntmps5
    go_wp2_with (first
      | (go_at_call 9; (with_reducible refine (W1.out _ HB.out).mono ?_); rintro e w' ⟨rfl, rfl⟩)
      | (go_at_call 9; (with_reducible refine (W2.out _ HB.out).mono ?_); rintro e w' ⟨rfl, rfl⟩)
      | (go_at_call 24; (with_reducible refine (F1.out _ HB.out).mono ?_); rintro e w' ⟨rfl, rfl⟩)
      | (go_at_call 24; (with_reducible refine (F2.out _ HB.out).mono ?_); rintro e w' ⟨rfl, rfl⟩)
      | (go_at_call 9; (with_reducible refine (W3.out _ HB.out).mono ?_); rintro e w' ⟨rfl, rfl⟩)
      | (go_at_call 9; (with_reducible refine (W4.out _ HB.out).mono ?_); rintro e w' ⟨rfl, rfl⟩)
      | (go_at_call 13; (with_reducible refine (K2.out _ HB.out).mono ?_); rintro e w' ⟨rfl, rfl⟩)
      | (go_at_call 8; (with_reducible refine (awake _ HT.out).mono ?_); rintro e w1 ⟨rfl, b1⟩))
    go_returns
    exact ⟨rfl, b1⟩
  · go_enter Tryd.func5, Tryd.ntmps5
    go_wp2_with (first
      | (go_at_call 9; (with_reducible refine (W1.out _ HB.out).mono ?_); rintro e w' ⟨rfl, rfl⟩)
      | (go_at_call 9; (with_reducible refine (W2.out _ HB.out).mono ?_); rintro e w' ⟨rfl, rfl⟩)
      | (go_at_call 24; (with_reducible refine (F1.out _ HB.out).mono ?_); rintro e w' ⟨rfl, rfl⟩)
      | (go_at_call 24; (with_reducible refine (F2.out _ HB.out).mono ?_); rintro e w' ⟨rfl, rfl⟩)
      | (go_at_call 9; (with_reducible refine (W3.out _ HB.out).mono ?_); rintro e w' ⟨rfl, rfl⟩)
      | (go_at_call 9; (with_reducible refine (W4.out _ HB.out).mono ?_); rintro e w' ⟨rfl, rfl⟩)
      | (go_at_call 13; (with_reducible refine (K2.out _ HB.out).mono ?_); rintro e w' ⟨rfl, rfl⟩)
      | (go_at_call 8; (with_reducible refine (awake _ HT.out).mono ?_); rintro e w1 ⟨rfl, b1⟩))
    go_returns
    exact ⟨rfl, b1⟩

theorem walkBo (n m y : Int) (hn : (n = 9223372036854775807 ∧ m = wrap64 9223372036854775808) ∨ (-9223372036854775808 ≤ n ∧ n < 9223372036854775807 ∧ m = n + 1)) (Y k d : Int)  
    (W1 : Hid (∀ w, Tab w → Calls Tryd.prog 9 #[.int .i64 n] w fun e w' => e = .returned (.tuple #[.int .i64 Y, .int .i64 k, .int .i64 d, .int .i64 0]) ∧ w = w'))
    (W2 : Hid (∀ w, Tab w → Calls Tryd.prog 9 #[.int .i64 m] w fun e w' => e = .returned (.tuple #[.int .i64 0, .int .i64 0, .int .i64 0, .int .i64 30]) ∧ w = w'))
    (F1 : Hid (∀ w, Tab w → Calls Tryd.prog 24 #[.int .i64 y, .int .i64 1, .int .i64 4] w fun e w' => e = .returned (.tuple #[.int .i64 0, .int .i64 30]) ∧ w = w'))
    (F2 : Hid (∀ w, Tab w → Calls Tryd.prog 24 #[.int .i64 y, .int .i64 12, .int .i64 28] w fun e w' => e = .returned (.tuple #[.int .i64 0, .int .i64 30]) ∧ w = w'))
    (K2 : Hid (∀ w, Tab w → Calls Tryd.prog 13 #[.int .i64 y] w fun e w' => e = .returned (.int .i64 0) ∧ w = w')) (w : World) (hT : Tabs w) :
    Calls Tryd.prog 5 #[.int .i64 n, .int .i64 y] w fun e w' => e = .returned (.bool true) ∧ Below w.heap.size w w' := by
  have HT := Lib.hid hT
  have HB := Lib.hid hT.1
  clear hT
  rcases hn with ⟨rfl, rfl⟩ | ⟨n0, n1, rfl⟩
  · go_enter Tryd.func5, Tryd.ntmps5
    go_wp2_with (first
      | (go_at_call 9; (with_reducible refine (W1.out _ HB.out).mono ?_); rintro e w' ⟨rfl, rfl⟩)
      | (go_at_call 9; (with_reducible refine (W2.out _ HB.out).mono ?_); rintro e w' ⟨rfl, rfl⟩)
      | (go_at_call 24; (with_reducible refine (F1.out _ HB.out).mono ?_); rintro e w' ⟨rfl, rfl⟩)
      | (go_at_call 24; (with_reducible refine (F2.out _ HB.out).mono ?_); rintro e w' ⟨rfl, rfl⟩)
      | (go_at_call 13; (with_reducible refine (K2.out _ HB.out).mono ?_); rintro e w' ⟨rfl, rfl⟩)
      | (go_at_call 8; (with_reducible refine (awake _ HT.out).mono ?_); rintro e w1 ⟨rfl, b1⟩))
    go_returns
    exact ⟨rfl, b1⟩
  · go_enter Tryd.func5, Tryd.ntmps5
    go_wp2_with (first
      | (go_at_call 9; (with_reducible refine (W1.out _ HB.out).mono ?_); rintro e w' ⟨rfl, rfl⟩)
      | (go_at_call 9; (with_reducible refine (W2.out _ HB.out).mono ?_); rintro e w' ⟨rfl, rfl⟩)
      | (go_at_call 24; (with_reducible refine (F1.out _ HB.out).mono ?_); rintro e w' ⟨rfl, rfl⟩)
      | (go_at_call 24; (with_reducible refine (F2.out _ HB.out).mono ?_); rintro e w' ⟨rfl, rfl⟩)
      | (go_at_call 13; (with_reducible refine (K2.out _ HB.out).mono ?_); rintro e w' ⟨rfl, rfl⟩)
      | (go_at_call 8; (with_reducible refine (awake _ HT.out).mono ?_); rintro e w1 ⟨rfl, b1⟩))
    go_returns
    exact ⟨rfl, b1⟩

theorem walkB52 (n m y : Int) (hn : (n = 9223372036854775807 ∧ m = wrap64 9223372036854775808) ∨ (-9223372036854775808 ≤ n ∧ n < 9223372036854775807 ∧ m = n + 1)) (Y k d : Int) (a b u t : Int) 
    (W1 : Hid (∀ w, Tab w → Calls Tryd.prog 9 #[.int .i64 n] w fun e w' => e = .returned (.tuple #[.int .i64 Y, .int .i64 k, .int .i64 d, .int .i64 0]) ∧ w = w'))
    (W2 : Hid (∀ w, Tab w → Calls Tryd.prog 9 #[.int .i64 m] w fun e w' => e = .returned (.tuple #[.int .i64 0, .int .i64 0, .int .i64 0, .int .i64 30]) ∧ w = w'))
    (F1 : Hid (∀ w, Tab w → Calls Tryd.prog 24 #[.int .i64 y, .int .i64 1, .int .i64 4] w fun e w' => e = .returned (.tuple #[.int .i64 a, .int .i64 0]) ∧ w = w'))
    (F2 : Hid (∀ w, Tab w → Calls Tryd.prog 24 #[.int .i64 y, .int .i64 12, .int .i64 28] w fun e w' => e = .returned (.tuple #[.int .i64 b, .int .i64 0]) ∧ w = w'))
    (W3 : Hid (∀ w, Tab w → Calls Tryd.prog 9 #[.int .i64 a] w fun e w' => e = .returned (.tuple #[.int .i64 y, .int .i64 1, .int .i64 u, .int .i64 0]) ∧ w = w'))
    (W4 : Hid (∀ w, Tab w → Calls Tryd.prog 9 #[.int .i64 b] w fun e w' => e = .returned (.tuple #[.int .i64 y, .int .i64 52, .int .i64 t, .int .i64 0]) ∧ w = w'))
    (K2 : Hid (∀ w, Tab w → Calls Tryd.prog 13 #[.int .i64 y] w fun e w' => e = .returned (.int .i64 52) ∧ w = w')) (w : World) (hT : Tabs w) :
    Calls Tryd.prog 5 #[.int .i64 n, .int .i64 y] w fun e w' => e = .returned (.bool true) ∧ Below w.heap.size w w' := by
  have HT := Lib.hid hT
  have HB := Lib.hid hT.1
  clear hT
  rcases hn with ⟨rfl, rfl⟩ | ⟨n0, n1, rfl⟩
  · go_enter Tryd.func5, Tryd.ntmps5
    go_wp2_with (first
      | (go_at_call 9; (with_reducible refine (W1.out _ HB.out).mono ?_); rintro e w' ⟨rfl, rfl⟩)
      | (go_at_call 9; (with_reducible refine (W2.out _ HB.out).mono ?_); rintro e w' ⟨rfl, rfl⟩)
      | (go_at_call 24; (with_reducible refine (F1.out _ HB.out).mono ?_); rintro e w' ⟨rfl, rfl⟩)
      | (go_at_call 24; (with_reducible refine (F2.out _ HB.out).mono ?_); rintro e w' ⟨rfl, rfl⟩)
      | (go_at_call 9; (with_reducible refine (W3.out _ HB.out).mono ?_); rintro e w' ⟨rfl, rfl⟩)
      | (go_at_call 9; (with_reducible refine (W4.out _ HB.out).mono ?_); rintro e w' ⟨rfl, rfl⟩)
      | (go_at_call 13; (with_reducible refine (K2.out _ HB.out).mono ?_); rintro e w' ⟨rfl, rfl⟩)
      | (go_at_call 8; (with_reducible refine (awake _ HT.out).mono ?_); rintro e w1 ⟨rfl, b1⟩))
    go_returns
    exact ⟨rfl, b1⟩
  · go_enter Tryd.func5, Tryd.ntmps5
    go_wp2_with (first
      | (go_at_call 9; (with_reducible refine (W1.out _ HB.out).mono ?_); rintro e w' ⟨rfl, rfl⟩)
      | (go_at_call 9; (with_reducible refine (W2.out _ HB.out).mono ?_); rintro e w' ⟨rfl, rfl⟩)
      | (go_at_call 24; (with_reducible refine (F1.out _ HB.out).mono ?_); rintro e w' ⟨rfl, rfl⟩)
      | (go_at_call 24; (with_reducible refine (F2.out _ HB.out).mono ?_); rintro e w' ⟨rfl, rfl⟩)
      | (go_at_call 9; (with_reducible refine (W3.out _ HB.out).mono ?_); rintro e w' ⟨rfl, rfl⟩)
      | (go_at_call 9; (with_reducible refine (W4.out _ HB.out).mono ?_); rintro e w' ⟨rfl, rfl⟩)
      | (go_at_call 13; (with_reducible refine (K2.out _ HB.out).mono ?_); rintro e w' ⟨rfl, rfl⟩)
      | (go_at_call 8; (with_reducible refine (awake _ HT.out).mono ?_); rintro e w1 ⟨rfl, b1⟩))
    go_returns
    exact ⟨rfl, b1⟩

theorem walkB53 (n m y : Int) (hn : (n = 9223372036854775807 ∧ m = wrap64 9223372036854775808) ∨ (-9223372036854775808 ≤ n ∧ n < 9223372036854775807 ∧ m = n + 1)) (Y k d : Int) (a b u t : Int) 
    (W1 : Hid (∀ w, Tab w → Calls Tryd.prog 9 #[.int .i64 n] w fun e w' => e = .returned (.tuple #[.int .i64 Y, .int .i64 k, .int .i64 d, .int .i64 0]) ∧ w = w'))
    (W2 : Hid (∀ w, Tab w → Calls Tryd.prog 9 #[.int .i64 m] w fun e w' => e = .returned (.tuple #[.int .i64 0, .int .i64 0, .int .i64 0, .int .i64 30]) ∧ w = w'))
    (F1 : Hid (∀ w, Tab w → Calls Tryd.prog 24 #[.int .i64 y, .int .i64 1, .int .i64 4] w fun e w' => e = .returned (.tuple #[.int .i64 a, .int .i64 0]) ∧ w = w'))
    (F2 : Hid (∀ w, Tab w → Calls Tryd.prog 24 #[.int .i64 y, .int .i64 12, .int .i64 28] w fun e w' => e = .returned (.tuple #[.int .i64 b, .int .i64 0]) ∧ w = w'))
    (W3 : Hid (∀ w, Tab w → Calls Tryd.prog 9 #[.int .i64 a] w fun e w' => e = .returned (.tuple #[.int .i64 y, .int .i64 1, .int .i64 u, .int .i64 0]) ∧ w = w'))
    (W4 : Hid (∀ w, Tab w → Calls Tryd.prog 9 #[.int .i64 b] w fun e w' => e = .returned (.tuple #[.int .i64 y, .int .i64 53, .int .i64 t, .int .i64 0]) ∧ w = w'))
    (K2 : Hid (∀ w, Tab w → Calls Tryd.prog 13 #[.int .i64 y] w fun e w' => e = .returned (.int .i64 53) ∧ w = w')) (w : World) (hT : Tabs w) :
    Calls Tryd.prog 5 #[.int .i64 n, .int .i64 y] w fun e w' => e = .returned (.bool true) ∧ Below w.heap.size w w' := by
  have HT := Lib.hid hT
  have HB := Lib.hid hT.1
  clear hT
  rcases hn with ⟨rfl, rfl⟩ | ⟨n0, n1, rfl⟩
  · go_enter Tryd.func5, Tryd.ntmps5
    go_wp2_with (first
      | (go_at_call 9; (with_reducible refine (W1.out _ HB.out).mono ?_); rintro e w' ⟨rfl, rfl⟩)
      | (go_at_call 9; (with_reducible refine (W2.out _ HB.out).mono ?_); rintro e w' ⟨rfl, rfl⟩)
      | (go_at_call 24; (with_reducible refine (F1.out _ HB.out).mono ?_); rintro e w' ⟨rfl, rfl⟩)
      | (go_at_call 24; (with_reducible refine (F2.out _ HB.out).mono ?_); rintro e w' ⟨rfl, rfl⟩)
      | (go_at_call 9; (with_reducible refine (W3.out _ HB.out).mono ?_); rintro e w' ⟨rfl, rfl⟩)
      | (go_at_call 9; (with_reducible refine (W4.out _ HB.out).mono ?_); rintro e w' ⟨rfl, rfl⟩)
      | (go_at_call 13; (with_reducible refine (K2.out _ HB.out).mono ?_); rintro e w' ⟨rfl, rfl⟩)
      | (go_at_call 8; (with_reducible refine (awake _ HT.out).mono ?_); rintro e w1 ⟨rfl, b1⟩))
    go_returns
    exact ⟨rfl, b1⟩
  · go_enter Tryd.func5, Tryd.ntmps5
    go_wp2_with (first
      | (go_at_call 9; (with_reducible refine (W1.out _ HB.out).mono ?_); rintro e w' ⟨rfl, rfl⟩)
      | (go_at_call 9; (with_reducible refine (W2.out _ HB.out).mono ?_); rintro e w' ⟨rfl, rfl⟩)
      | (go_at_call 24; (with_reducible refine (F1.out _ HB.out).mono ?_); rintro e w' ⟨rfl, rfl⟩)
      | (go_at_call 24; (with_reducible refine (F2.out _ HB.out).mono ?_); rintro e w' ⟨rfl, rfl⟩)
      | (go_at_call 9; (with_reducible refine (W3.out _ HB.out).mono ?_); rintro e w' ⟨rfl, rfl⟩)
      | (go_at_call 9; (with_reducible refine (W4.out _ HB.out).mono ?_); rintro e w' ⟨rfl, rfl⟩)
      | (go_at_call 13; (with_reducible refine (K2.out _ HB.out).mono ?_); rintro e w' ⟨rfl, rfl⟩)
      | (go_at_call 8; (with_reducible refine (awake _ HT.out).mono ?_); rintro e w1 ⟨rfl, b1⟩))
    go_returns
    exact ⟨rfl, b1⟩

theorem walkCo (n m y : Int) (hn : (n = 9223372036854775807 ∧ m = wrap64 9223372036854775808) ∨ (-9223372036854775808 ≤ n ∧ n < 9223372036854775807 ∧ m = n + 1)) (Y k d : Int)  (q1 : 1 ≤ d) (q2 : d < 7)
    (W1 : Hid (∀ w, Tab w → Calls Tryd.prog 9 #[.int .i64 n] w fun e w' => e = .returned (.tuple #[.int .i64 Y, .int .i64 k, .int .i64 d, .int .i64 0]) ∧ w = w'))
    (W2 : Hid (∀ w, Tab w → Calls Tryd.prog 9 #[.int .i64 m] w fun e w' => e = .returned (.tuple #[.int .i64 Y, .int .i64 k, .int .i64 (d + 1), .int .i64 0]) ∧ w = w'))
    (F1 : Hid (∀ w, Tab w → Calls Tryd.prog 24 #[.int .i64 y, .int .i64 1, .int .i64 4] w fun e w' => e = .returned (.tuple #[.int .i64 0, .int .i64 30]) ∧ w = w'))
    (F2 : Hid (∀ w, Tab w → Calls Tryd.prog 24 #[.int .i64 y, .int .i64 12, .int .i64 28] w fun e w' => e = .returned (.tuple #[.int .i64 0, .int .i64 30]) ∧ w = w'))
    (K2 : Hid (∀ w, Tab w → Calls Tryd.prog 13 #[.int .i64 y] w fun e w' => e = .returned (.int .i64 0) ∧ w = w')) (w : World) (hT : Tabs w) :
    Calls Tryd.prog 5 #[.int .i64 n, .int .i64 y] w fun e w' => e = .returned (.bool true) ∧ Below w.heap.size w w' := by
  have HT := Lib.hid hT
  have HB := Lib.hid hT.1
  clear hT
  rcases hn with ⟨rfl, rfl⟩ | ⟨n0, n1, rfl⟩
  · go_enter Tryd.func5, Tryd.ntmps5
    go_wp2_with (first
      | (go_at_call 9; (with_reducible refine (W1.out _ HB.out).mono ?_); rintro e w' ⟨rfl, rfl⟩)
      | (go_at_call 9; (with_reducible refine (W2.out _ HB.out).mono ?_); rintro e w' ⟨rfl, rfl⟩)
      | (go_at_call 24; (with_reducible refine (F1.out _ HB.out).mono ?_); rintro e w' ⟨rfl, rfl⟩)
      | (go_at_call 24; (with_reducible refine (F2.out _ HB.out).mono ?_); rintro e w' ⟨rfl, rfl⟩)
      | (go_at_call 13; (with_reducible refine (K2.out _ HB.out).mono ?_); rintro e w' ⟨rfl, rfl⟩)
      | (go_at_call 8; (with_reducible refine (awake _ HT.out).mono ?_); rintro e w1 ⟨rfl, b1⟩))
    go_returns
    exact ⟨rfl, b1⟩
  · go_enter Tryd.func5, Tryd.ntmps5
    go_wp2_with (first
      | (go_at_call 9; (with_reducible refine (W1.out _ HB.out).mono ?_); rintro e w' ⟨rfl, rfl⟩)
      | (go_at_call 9; (with_reducible refine (W2.out _ HB.out).mono ?_); rintro e w' ⟨rfl, rfl⟩)
      | (go_at_call 24; (with_reducible refine (F1.out _ HB.out).mono ?_); rintro e w' ⟨rfl, rfl⟩)
      | (go_at_call 24; (with_reducible refine (F2.out _ HB.out).mono ?_); rintro e w' ⟨rfl, rfl⟩)
      | (go_at_call 13; (with_reducible refine (K2.out _ HB.out).mono ?_); rintro e w' ⟨rfl, rfl⟩)
      | (go_at_call 8; (with_reducible refine (awake _ HT.out).mono ?_); rintro e w1 ⟨rfl, b1⟩))
    go_returns
    exact ⟨rfl, b1⟩

theorem walkC52 (n m y : Int) (hn : (n = 9223372036854775807 ∧ m = wrap64 9223372036854775808) ∨ (-9223372036854775808 ≤ n ∧ n < 9223372036854775807 ∧ m = n + 1)) (Y k d : Int) (a b u t : Int) (q1 : 1 ≤ d) (q2 : d < 7)
    (W1 : Hid (∀ w, Tab w → Calls Tryd.prog 9 #[.int .i64 n] w fun e w' => e = .returned (.tuple #[.int .i64 Y, .int .i64 k, .int .i64 d, .int .i64 0]) ∧ w = w'))
    (W2 : Hid (∀ w, Tab w → Calls Tryd.prog 9 #[.int .i64 m] w fun e w' => e = .returned (.tuple #[.int .i64 Y, .int .i64 k, .int .i64 (d + 1), .int .i64 0]) ∧ w = w'))
    (F1 : Hid (∀ w, Tab w → Calls Tryd.prog 24 #[.int .i64 y, .int .i64 1, .int .i64 4] w fun e w' => e = .returned (.tuple #[.int .i64 a, .int .i64 0]) ∧ w = w'))
    (F2 : Hid (∀ w, Tab w → Calls Tryd.prog 24 #[.int .i64 y, .int .i64 12, .int .i64 28] w fun e w' => e = .returned (.tuple #[.int .i64 b, .int .i64 0]) ∧ w = w'))
    (W3 : Hid (∀ w, Tab w → Calls Tryd.prog 9 #[.int .i64 a] w fun e w' => e = .returned (.tuple #[.int .i64 y, .int .i64 1, .int .i64 u, .int .i64 0]) ∧ w = w'))
    (W4 : Hid (∀ w, Tab w → Calls Tryd.prog 9 #[.int .i64 b] w fun e w' => e = .returned (.tuple #[.int .i64 y, .int .i64 52, .int .i64 t, .int .i64 0]) ∧ w = w'))
    (K2 : Hid (∀ w, Tab w → Calls Tryd.prog 13 #[.int .i64 y] w fun e w' => e = .returned (.int .i64 52) ∧ w = w')) (w : World) (hT : Tabs w) :
    Calls Tryd.prog 5 #[.int .i64 n, .int .i64 y] w fun e w' => e = .returned (.bool true) ∧ Below w.heap.size w w' := by
  have HT := Lib.hid hT
  have HB := Lib.hid hT.1
  clear hT
  rcases hn with ⟨rfl, rfl⟩ | ⟨n0, n1, rfl⟩
  · go_enter Tryd.func5, Tryd.ntmps5
    go_wp2_with (first
      | (go_at_call 9; (with_reducible refine (W1.out _ HB.out).mono ?_); rintro e w' ⟨rfl, rfl⟩)
      | (go_at_call 9; (with_reducible refine (W2.out _ HB.out).mono ?_); rintro e w' ⟨rfl, rfl⟩)
      | (go_at_call 24; (with_reducible refine (F1.out _ HB.out).mono ?_); rintro e w' ⟨rfl, rfl⟩)
      | (go_at_call 24; (with_reducible refine (F2.out _ HB.out).mono ?_); rintro e w' ⟨rfl, rfl⟩)
      | (go_at_call 9; (with_reducible refine (W3.out _ HB.out).mono ?_); rintro e w' ⟨rfl, rfl⟩)
      | (go_at_call 9; (with_reducible refine (W4.out _ HB.out).mono ?_); rintro e w' ⟨rfl, rfl⟩)
      | (go_at_call 13; (with_reducible refine (K2.out _ HB.out).mono ?_); rintro e w' ⟨rfl, rfl⟩)
      | (go_at_call 8; (with_reducible refine (awake _ HT.out).mono ?_); rintro e w1 ⟨rfl, b1⟩))
    go_returns
    exact ⟨rfl, b1⟩
  · go_enter Tryd.func5, Tryd.ntmps5
    go_wp2_with (first
      | (go_at_call 9; (with_reducible refine (W1.out _ HB.out).mono ?_); rintro e w' ⟨rfl, rfl⟩)
      | (go_at_call 9; (with_reducible refine (W2.out _ HB.out).mono ?_); rintro e w' ⟨rfl, rfl⟩)
      | (go_at_call 24; (with_reducible refine (F1.out _ HB.out).mono ?_); rintro e w' ⟨rfl, rfl⟩)
      | (go_at_call 24; (with_reducible refine (F2.out _ HB.out).mono ?_); rintro e w' ⟨rfl, rfl⟩)
      | (go_at_call 9; (with_reducible refine (W3.out _ HB.out).mono ?_); rintro e w' ⟨rfl, rfl⟩)
      | (go_at_call 9; (with_reducible refine (W4.out _ HB.out).mono ?_); rintro e w' ⟨rfl, rfl⟩)
      | (go_at_call 13; (with_reducible refine (K2.out _ HB.out).mono ?_); rintro e w' ⟨rfl, rfl⟩)
      | (go_at_call 8; (with_reducible refine (awake _ HT.out).mono ?_); rintro e w1 ⟨rfl, b1⟩))
    go_returns
    exact ⟨rfl, b1⟩

theorem walkC53 (n m y : Int) (hn : (n = 9223372036854775807 ∧ m = wrap64 9223372036854775808) ∨ (-9223372036854775808 ≤ n ∧ n < 9223372036854775807 ∧ m = n + 1)) (Y k d : Int) (a b u t : Int) (q1 : 1 ≤ d) (q2 : d < 7)
    (W1 : Hid (∀ w, Tab w → Calls Tryd.prog 9 #[.int .i64 n] w fun e w' => e = .returned (.tuple #[.int .i64 Y, .int .i64 k, .int .i64 d, .int .i64 0]) ∧ w = w'))
    (W2 : Hid (∀ w, Tab w → Calls Tryd.prog 9 #[.int .i64 m] w fun e w' => e = .returned (.tuple #[.int .i64 Y, .int .i64 k, .int .i64 (d + 1), .int .i64 0]) ∧ w = w'))
    (F1 : Hid (∀ w, Tab w → Calls Tryd.prog 24 #[.int .i64 y, .int .i64 1, .int .i64 4] w fun e w' => e = .returned (.tuple #[.int .i64 a, .int .i64 0]) ∧ w = w'))
    (F2 : Hid (∀ w, Tab w → Calls Tryd.prog 24 #[.int .i64 y, .int .i64 12, .int .i64 28] w fun e w' => e = .returned (.tuple #[.int .i64 b, .int .i64 0]) ∧ w = w'))
    (W3 : Hid (∀ w, Tab w → Calls Tryd.prog 9 #[.int .i64 a] w fun e w' => e = .returned (.tuple #[.int .i64 y, .int .i64 1, .int .i64 u, .int .i64 0]) ∧ w = w'))
    (W4 : Hid (∀ w, Tab w → Calls Tryd.prog 9 #[.int .i64 b] w fun e w' => e = .returned (.tuple #[.int .i64 y, .int .i64 53, .int .i64 t, .int .i64 0]) ∧ w = w'))
    (K2 : Hid (∀ w, Tab w → Calls Tryd.prog 13 #[.int .i64 y] w fun e w' => e = .returned (.int .i64 53) ∧ w = w')) (w : World) (hT : Tabs w) :
    Calls Tryd.prog 5 #[.int .i64 n, .int .i64 y] w fun e w' => e = .returned (.bool true) ∧ Below w.heap.size w w' := by
  have HT := Lib.hid hT
  have HB := Lib.hid hT.1
  clear hT
  rcases hn with ⟨rfl, rfl⟩ | ⟨n0, n1, rfl⟩
  · go_enter Tryd.func5, Tryd.ntmps5
    go_wp2_with (first
      | (go_at_call 9; (with_reducible refine (W1.out _ HB.out).mono ?_); rintro e w' ⟨rfl, rfl⟩)
      | (go_at_call 9; (with_reducible refine (W2.out _ HB.out).mono ?_); rintro e w' ⟨rfl, rfl⟩)
      | (go_at_call 24; (with_reducible refine (F1.out _ HB.out).mono ?_); rintro e w' ⟨rfl, rfl⟩)
      | (go_at_call 24; (with_reducible refine (F2.out _ HB.out).mono ?_); rintro e w' ⟨rfl, rfl⟩)
      | (go_at_call 9; (with_reducible refine (W3.out _ HB.out).mono ?_); rintro e w' ⟨rfl, rfl⟩)
      | (go_at_call 9; (with_reducible refine (W4.out _ HB.out).mono ?_); rintro e w' ⟨rfl, rfl⟩)
      | (go_at_call 13; (with_reducible refine (K2.out _ HB.out).mono ?_); rintro e w' ⟨rfl, rfl⟩)
      | (go_at_call 8; (with_reducible refine (awake _ HT.out).mono ?_); rintro e w1 ⟨rfl, b1⟩))
    go_returns
    exact ⟨rfl, b1⟩
  · go_enter Tryd.func5, Tryd.ntmps5
    go_wp2_with (first
      | (go_at_call 9; (with_reducible refine (W1.out _ HB.out).mono ?_); rintro e w' ⟨rfl, rfl⟩)
      | (go_at_call 9; (with_reducible refine (W2.out _ HB.out).mono ?_); rintro e w' ⟨rfl, rfl⟩)
      | (go_at_call 24; (with_reducible refine (F1.out _ HB.out).mono ?_); rintro e w' ⟨rfl, rfl⟩)
      | (go_at_call 24; (with_reducible refine (F2.out _ HB.out).mono ?_); rintro e w' ⟨rfl, rfl⟩)
      | (go_at_call 9; (with_reducible refine (W3.out _ HB.out).mono ?_); rintro e w' ⟨rfl, rfl⟩)
      | (go_at_call 9; (with_reducible refine (W4.out _ HB.out).mono ?_); rintro e w' ⟨rfl, rfl⟩)
      | (go_at_call 13; (with_reducible refine (K2.out _ HB.out).mono ?_); rintro e w' ⟨rfl, rfl⟩)
      | (go_at_call 8; (with_reducible refine (awake _ HT.out).mono ?_); rintro e w1 ⟨rfl, b1⟩))
    go_returns
    exact ⟨rfl, b1⟩

theorem walkDo (n m y : Int) (hn : (n = 9223372036854775807 ∧ m = wrap64 9223372036854775808) ∨ (-9223372036854775808 ≤ n ∧ n < 9223372036854775807 ∧ m = n + 1)) (Y k M : Int)  (q1 : 0 ≤ k) (q2 : k < M) (q3 : M ≤ 53)
    (W1 : Hid (∀ w, Tab w → Calls Tryd.prog 9 #[.int .i64 n] w fun e w' => e = .returned (.tuple #[.int .i64 Y, .int .i64 k, .int .i64 7, .int .i64 0]) ∧ w = w'))
    (W2 : Hid (∀ w, Tab w → Calls Tryd.prog 9 #[.int .i64 m] w fun e w' => e = .returned (.tuple #[.int .i64 Y, .int .i64 (k + 1), .int .i64 1, .int .i64 0]) ∧ w = w'))
    (K1 : Hid (∀ w, Tab w → Calls Tryd.prog 13 #[.int .i64 Y] w fun e w' => e = .returned (.int .i64 M) ∧ w = w'))
    (F1 : Hid (∀ w, Tab w → Calls Tryd.prog 24 #[.int .i64 y, .int .i64 1, .int .i64 4] w fun e w' => e = .returned (.tuple #[.int .i64 0, .int .i64 30]) ∧ w = w'))
    (F2 : Hid (∀ w, Tab w → Calls Tryd.prog 24 #[.int .i64 y, .int .i64 12, .int .i64 28] w fun e w' => e = .returned (.tuple #[.int .i64 0, .int .i64 30]) ∧ w = w'))
    (K2 : Hid (∀ w, Tab w → Calls Tryd.prog 13 #[.int .i64 y] w fun e w' => e = .returned (.int .i64 0) ∧ w = w')) (w : World) (hT : Tabs w) :
    Calls Tryd.prog 5 #[.int .i64 n, .int .i64 y] w fun e w' => e = .returned (.bool true) ∧ Below w.heap.size w w' := by
  have HT := Lib.hid hT
  have HB := Lib.hid hT.1
  clear hT
  rcases hn with ⟨rfl, rfl⟩ | ⟨n0, n1, rfl⟩
  · go_enter Tryd.func5, Tryd.ntmps5
    go_wp2_with (first
      | (go_at_call 9; (with_reducible refine (W1.out _ HB.out).mono ?_); rintro e w' ⟨rfl, rfl⟩)
      | (go_at_call 9; (with_reducible refine (W2.out _ HB.out).mono ?_); rintro e w' ⟨rfl, rfl⟩)
      | (go_at_call 13; (with_reducible refine (K1.out _ HB.out).mono ?_); rintro e w' ⟨rfl, rfl⟩)
      | (go_at_call 24; (with_reducible refine (F1.out _ HB.out).mono ?_); rintro e w' ⟨rfl, rfl⟩)
      | (go_at_call 24; (with_reducible refine (F2.out _ HB.out).mono ?_); rintro e w' ⟨rfl, rfl⟩)
      | (go_at_call 13; (with_reducible refine (K2.out _ HB.out).mono ?_); rintro e w' ⟨rfl, rfl⟩)
      | (go_at_call 8; (with_reducible refine (awake _ HT.out).mono ?_); rintro e w1 ⟨rfl, b1⟩))
    go_returns
    exact ⟨rfl, b1⟩
  · go_enter Tryd.func5, Tryd.ntmps5
    go_wp2_with (first
      | (go_at_call 9; (with_reducible refine (W1.out _ HB.out).mono ?_); rintro e w' ⟨rfl, rfl⟩)
      | (go_at_call 9; (with_reducible refine (W2.out _ HB.out).mono ?_); rintro e w' ⟨rfl, rfl⟩)
      | (go_at_call 13; (with_reducible refine (K1.out _ HB.out).mono ?_); rintro e w' ⟨rfl, rfl⟩)
      | (go_at_call 24; (with_reducible refine (F1.out _ HB.out).mono ?_); rintro e w' ⟨rfl, rfl⟩)
      | (go_at_call 24; (with_reducible refine (F2.out _ HB.out).mono ?_); rintro e w' ⟨rfl, rfl⟩)
      | (go_at_call 13; (with_reducible refine (K2.out _ HB.out).mono ?_); rintro e w' ⟨rfl, rfl⟩)
      | (go_at_call 8; (with_reducible refine (awake _ HT.out).mono ?_); rintro e w1 ⟨rfl, b1⟩))
    go_returns
    exact ⟨rfl, b1⟩

theorem walkD52 (n m y : Int) (hn : (n = 9223372036854775807 ∧ m = wrap64 9223372036854775808) ∨ (-9223372036854775808 ≤ n ∧ n < 9223372036854775807 ∧ m = n + 1)) (Y k M : Int) (a b u t : Int) (q1 : 0 ≤ k) (q2 : k < M) (q3 : M ≤ 53)
    (W1 : Hid (∀ w, Tab w → Calls Tryd.prog 9 #[.int .i64 n] w fun e w' => e = .returned (.tuple #[.int .i64 Y, .int .i64 k, .int .i64 7, .int .i64 0]) ∧ w = w'))
    (W2 : Hid (∀ w, Tab w → Calls Tryd.prog 9 #[.int .i64 m] w fun e w' => e = .returned (.tuple #[.int .i64 Y, .int .i64 (k + 1), .int .i64 1, .int .i64 0]) ∧ w = w'))
    (K1 : Hid (∀ w, Tab w → Calls Tryd.prog 13 #[.int .i64 Y] w fun e w' => e = .returned (.int .i64 M) ∧ w = w'))
    (F1 : Hid (∀ w, Tab w → Calls Tryd.prog 24 #[.int .i64 y, .int .i64 1, .int .i64 4] w fun e w' => e = .returned (.tuple #[.int .i64 a, .int .i64 0]) ∧ w = w'))
    (F2 : Hid (∀ w, Tab w → Calls Tryd.prog 24 #[.int .i64 y, .int .i64 12, .int .i64 28] w fun e w' => e = .returned (.tuple #[.int .i64 b, .int .i64 0]) ∧ w = w'))
    (W3 : Hid (∀ w, Tab w → Calls Tryd.prog 9 #[.int .i64 a] w fun e w' => e = .returned (.tuple #[.int .i64 y, .int .i64 1, .int .i64 u, .int .i64 0]) ∧ w = w'))
    (W4 : Hid (∀ w, Tab w → Calls Tryd.prog 9 #[.int .i64 b] w fun e w' => e = .returned (.tuple #[.int .i64 y, .int .i64 52, .int .i64 t, .int .i64 0]) ∧ w = w'))
    (K2 : Hid (∀ w, Tab w → Calls Tryd.prog 13 #[.int .i64 y] w fun e w' => e = .returned (.int .i64 52) ∧ w = w')) (w : World) (hT : Tabs w) :
    Calls Tryd.prog 5 #[.int .i64 n, .int .i64 y] w fun e w' => e = .returned (.bool true) ∧ Below w.heap.size w w' := by
  have HT := Lib.hid hT
  have HB := Lib.hid hT.1
  clear hT
  rcases hn with ⟨rfl, rfl⟩ | ⟨n0, n1, rfl⟩
  · go_enter Tryd.func5, Tryd.ntmps5
    go_wp2_with (first
      | (go_at_call 9; (with_reducible refine (W1.out _ HB.out).mono ?_); rintro e w' ⟨rfl, rfl⟩)
      | (go_at_call 9; (with_reducible refine (W2.out _ HB.out).mono ?_); rintro e w' ⟨rfl, rfl⟩)
      | (go_at_call 13; (with_reducible refine (K1.out _ HB.out).mono ?_); rintro e w' ⟨rfl, rfl⟩)
      | (go_at_call 24; (with_reducible refine (F1.out _ HB.out).mono ?_); rintro e w' ⟨rfl, rfl⟩)
      | (go_at_call 24; (with_reducible refine (F2.out _ HB.out).mono ?_); rintro e w' ⟨rfl, rfl⟩)
      | (go_at_call 9; (with_reducible refine (W3.out _ HB.out).mono ?_); rintro e w' ⟨rfl, rfl⟩)
      | (go_at_call 9; (with_reducible refine (W4.out _ HB.out).mono ?_); rintro e w' ⟨rfl, rfl⟩)
      | (go_at_call 13; (with_reducible refine (K2.out _ HB.out).mono ?_); rintro e w' ⟨rfl, rfl⟩)
      | (go_at_call 8; (with_reducible refine (awake _ HT.out).mono ?_); rintro e w1 ⟨rfl, b1⟩))
    go_returns
    exact ⟨rfl, b1⟩
  · go_enter Tryd.func5, Tryd.ntmps5
    go_wp2_with (first
      | (go_at_call 9; (with_reducible refine (W1.out _ HB.out).mono ?_); rintro e w' ⟨rfl, rfl⟩)
      | (go_at_call 9; (with_reducible refine (W2.out _ HB.out).mono ?_); rintro e w' ⟨rfl, rfl⟩)
      | (go_at_call 13; (with_reducible refine (K1.out _ HB.out).mono ?_); rintro e w' ⟨rfl, rfl⟩)
      | (go_at_call 24; (with_reducible refine (F1.out _ HB.out).mono ?_); rintro e w' ⟨rfl, rfl⟩)
      | (go_at_call 24; (with_reducible refine (F2.out _ HB.out).mono ?_); rintro e w' ⟨rfl, rfl⟩)
      | (go_at_call 9; (with_reducible refine (W3.out _ HB.out).mono ?_); rintro e w' ⟨rfl, rfl⟩)
      | (go_at_call 9; (with_reducible refine (W4.out _ HB.out).mono ?_); rintro e w' ⟨rfl, rfl⟩)
      | (go_at_call 13; (with_reducible refine (K2.out _ HB.out).mono ?_); rintro e w' ⟨rfl, rfl⟩)
      | (go_at_call 8; (with_reducible refine (awake _ HT.out).mono ?_); rintro e w1 ⟨rfl, b1⟩))
    go_returns
    exact ⟨rfl, b1⟩

theorem walkD53 (n m y : Int) (hn : (n = 9223372036854775807 ∧ m = wrap64 9223372036854775808) ∨ (-9223372036854775808 ≤ n ∧ n < 9223372036854775807 ∧ m = n + 1)) (Y k M : Int) (a b u t : Int) (q1 : 0 ≤ k) (q2 : k < M) (q3 : M ≤ 53)
    (W1 : Hid (∀ w, Tab w → Calls Tryd.prog 9 #[.int .i64 n] w fun e w' => e = .returned (.tuple #[.int .i64 Y, .int .i64 k, .int .i64 7, .int .i64 0]) ∧ w = w'))
    (W2 : Hid (∀ w, Tab w → Calls Tryd.prog 9 #[.int .i64 m] w fun e w' => e = .returned (.tuple #[.int .i64 Y, .int .i64 (k + 1), .int .i64 1, .int .i64 0]) ∧ w = w'))
    (K1 : Hid (∀ w, Tab w → Calls Tryd.prog 13 #[.int .i64 Y] w fun e w' => e = .returned (.int .i64 M) ∧ w = w'))
    (F1 : Hid (∀ w, Tab w → Calls Tryd.prog 24 #[.int .i64 y, .int .i64 1, .int .i64 4] w fun e w' => e = .returned (.tuple #[.int .i64 a, .int .i64 0]) ∧ w = w'))
    (F2 : Hid (∀ w, Tab w → Calls Tryd.prog 24 #[.int .i64 y, .int .i64 12, .int .i64 28] w fun e w' => e = .returned (.tuple #[.int .i64 b, .int .i64 0]) ∧ w = w'))
    (W3 : Hid (∀ w, Tab w → Calls Tryd.prog 9 #[.int .i64 a] w fun e w' => e = .returned (.tuple #[.int .i64 y, .int .i64 1, .int .i64 u, .int .i64 0]) ∧ w = w'))
    (W4 : Hid (∀ w, Tab w → Calls Tryd.prog 9 #[.int .i64 b] w fun e w' => e = .returned (.tuple #[.int .i64 y, .int .i64 53, .int .i64 t, .int .i64 0]) ∧ w = w'))
    (K2 : Hid (∀ w, Tab w → Calls Tryd.prog 13 #[.int .i64 y] w fun e w' => e = .returned (.int .i64 53) ∧ w = w')) (w : World) (hT : Tabs w) :
    Calls Tryd.prog 5 #[.int .i64 n, .int .i64 y] w fun e w' => e = .returned (.bool true) ∧ Below w.heap.size w w' := by
  have HT := Lib.hid hT
  have HB := Lib.hid hT.1
  clear hT
  rcases hn with ⟨rfl, rfl⟩ | ⟨n0, n1, rfl⟩
  · go_enter Tryd.func5, Tryd.ntmps5
    go_wp2_with (first
      | (go_at_call 9; (with_reducible refine (W1.out _ HB.out).mono ?_); rintro e w' ⟨rfl, rfl⟩)
      | (go_at_call 9; (with_reducible refine (W2.out _ HB.out).mono ?_); rintro e w' ⟨rfl, rfl⟩)
      | (go_at_call 13; (with_reducible refine (K1.out _ HB.out).mono ?_); rintro e w' ⟨rfl, rfl⟩)
      | (go_at_call 24; (with_reducible refine (F1.out _ HB.out).mono ?_); rintro e w' ⟨rfl, rfl⟩)
      | (go_at_call 24; (with_reducible refine (F2.out _ HB.out).mono ?_); rintro e w' ⟨rfl, rfl⟩)
      | (go_at_call 9; (with_reducible refine (W3.out _ HB.out).mono ?_); rintro e w' ⟨rfl, rfl⟩)
      | (go_at_call 9; (with_reducible refine (W4.out _ HB.out).mono ?_); rintro e w' ⟨rfl, rfl⟩)
      | (go_at_call 13; (with_reducible refine (K2.out _ HB.out).mono ?_); rintro e w' ⟨rfl, rfl⟩)
      | (go_at_call 8; (with_reducible refine (awake _ HT.out).mono ?_); rintro e w1 ⟨rfl, b1⟩))
    go_returns
    exact ⟨rfl, b1⟩
  · go_enter Tryd.func5, Tryd.ntmps5
    go_wp2_with (first
      | (go_at_call 9; (with_reducible refine (W1.out _ HB.out).mono ?_); rintro e w' ⟨rfl, rfl⟩)
      | (go_at_call 9; (with_reducible refine (W2.out _ HB.out).mono ?_); rintro e w' ⟨rfl, rfl⟩)
      | (go_at_call 13; (with_reducible refine (K1.out _ HB.out).mono ?_); rintro e w' ⟨rfl, rfl⟩)
      | (go_at_call 24; (with_reducible refine (F1.out _ HB.out).mono ?_); rintro e w' ⟨rfl, rfl⟩)
      | (go_at_call 24; (with_reducible refine (F2.out _ HB.out).mono ?_); rintro e w' ⟨rfl, rfl⟩)
      | (go_at_call 9; (with_reducible refine (W3.out _ HB.out).mono ?_); rintro e w' ⟨rfl, rfl⟩)
      | (go_at_call 9; (with_reducible refine (W4.out _ HB.out).mono ?_); rintro e w' ⟨rfl, rfl⟩)
      | (go_at_call 13; (with_reducible refine (K2.out _ HB.out).mono ?_); rintro e w' ⟨rfl, rfl⟩)
      | (go_at_call 8; (with_reducible refine (awake _ HT.out).mono ?_); rintro e w1 ⟨rfl, b1⟩))
    go_returns
    exact ⟨rfl, b1⟩

theorem walkEo (n m y : Int) (hn : (n = 9223372036854775807 ∧ m = wrap64 9223372036854775808) ∨ (-9223372036854775808 ≤ n ∧ n < 9223372036854775807 ∧ m = n + 1)) (Y k M : Int)  (q1 : -9999 ≤ Y) (q2 : Y ≤ 9999) (q3 : M ≤ k)
    (W1 : Hid (∀ w, Tab w → Calls Tryd.prog 9 #[.int .i64 n] w fun e w' => e = .returned (.tuple #[.int .i64 Y, .int .i64 k, .int .i64 7, .int .i64 0]) ∧ w = w'))
    (W2 : Hid (∀ w, Tab w → Calls Tryd.prog 9 #[.int .i64 m] w fun e w' => e = .returned (.tuple #[.int .i64 (Y + 1), .int .i64 1, .int .i64 1, .int .i64 0]) ∧ w = w'))
    (K1 : Hid (∀ w, Tab w → Calls Tryd.prog 13 #[.int .i64 Y] w fun e w' => e = .returned (.int .i64 M) ∧ w = w'))
    (F1 : Hid (∀ w, Tab w → Calls Tryd.prog 24 #[.int .i64 y, .int .i64 1, .int .i64 4] w fun e w' => e = .returned (.tuple #[.int .i64 0, .int .i64 30]) ∧ w = w'))
    (F2 : Hid (∀ w, Tab w → Calls Tryd.prog 24 #[.int .i64 y, .int .i64 12, .int .i64 28] w fun e w' => e = .returned (.tuple #[.int .i64 0, .int .i64 30]) ∧ w = w'))
    (K2 : Hid (∀ w, Tab w → Calls Tryd.prog 13 #[.int .i64 y] w fun e w' => e = .returned (.int .i64 0) ∧ w = w')) (w : World) (hT : Tabs w) :
    Calls Tryd.prog 5 #[.int .i64 n, .int .i64 y] w fun e w' => e = .returned (.bool true) ∧ Below w.heap.size w w' := by
  have HT := Lib.hid hT
  have HB := Lib.hid hT.1
  clear hT
  rcases hn with ⟨rfl, rfl⟩ | ⟨n0, n1, rfl⟩
  · go_enter Tryd.func5, Tryd.ntmps5
    go_wp2_with (first
      | (go_at_call 9; (with_reducible refine (W1.out _ HB.out).mono ?_); rintro e w' ⟨rfl, rfl⟩)
      | (go_at_call 9; (with_reducible refine (W2.out _ HB.out).mono ?_); rintro e w' ⟨rfl, rfl⟩)
      | (go_at_call 13; (with_reducible refine (K1.out _ HB.out).mono ?_); rintro e w' ⟨rfl, rfl⟩)
      | (go_at_call 24; (with_reducible refine (F1.out _ HB.out).mono ?_); rintro e w' ⟨rfl, rfl⟩)
      | (go_at_call 24; (with_reducible refine (F2.out _ HB.out).mono ?_); rintro e w' ⟨rfl, rfl⟩)
      | (go_at_call 13; (with_reducible refine (K2.out _ HB.out).mono ?_); rintro e w' ⟨rfl, rfl⟩)
      | (go_at_call 8; (with_reducible refine (awake _ HT.out).mono ?_); rintro e w1 ⟨rfl, b1⟩))
    go_returns
    exact ⟨rfl, b1⟩
  · go_enter Tryd.func5, Tryd.ntmps5
    go_wp2_with (first
      | (go_at_call 9; (with_reducible refine (W1.out _ HB.out).mono ?_); rintro e w' ⟨rfl, rfl⟩)
      | (go_at_call 9; (with_reducible refine (W2.out _ HB.out).mono ?_); rintro e w' ⟨rfl, rfl⟩)
      | (go_at_call 13; (with_reducible refine (K1.out _ HB.out).mono ?_); rintro e w' ⟨rfl, rfl⟩)
      | (go_at_call 24; (with_reducible refine (F1.out _ HB.out).mono ?_); rintro e w' ⟨rfl, rfl⟩)
      | (go_at_call 24; (with_reducible refine (F2.out _ HB.out).mono ?_); rintro e w' ⟨rfl, rfl⟩)
      | (go_at_call 13; (with_reducible refine (K2.out _ HB.out).mono ?_); rintro e w' ⟨rfl, rfl⟩)
      | (go_at_call 8; (with_reducible refine (awake _ HT.out).mono ?_); rintro e w1 ⟨rfl, b1⟩))
    go_returns
    exact ⟨rfl, b1⟩

theorem walkE52 (n m y : Int) (hn : (n = 9223372036854775807 ∧ m = wrap64 9223372036854775808) ∨ (-9223372036854775808 ≤ n ∧ n < 9223372036854775807 ∧ m = n + 1)) (Y k M : Int) (a b u t : Int) (q1 : -9999 ≤ Y) (q2 : Y ≤ 9999) (q3 : M ≤ k)
    (W1 : Hid (∀ w, Tab w → Calls Tryd.prog 9 #[.int .i64 n] w fun e w' => e = .returned (.tuple #[.int .i64 Y, .int .i64 k, .int .i64 7, .int .i64 0]) ∧ w = w'))
    (W2 : Hid (∀ w, Tab w → Calls Tryd.prog 9 #[.int .i64 m] w fun e w' => e = .returned (.tuple #[.int .i64 (Y + 1), .int .i64 1, .int .i64 1, .int .i64 0]) ∧ w = w'))
    (K1 : Hid (∀ w, Tab w → Calls Tryd.prog 13 #[.int .i64 Y] w fun e w' => e = .returned (.int .i64 M) ∧ w = w'))
    (F1 : Hid (∀ w, Tab w → Calls Tryd.prog 24 #[.int .i64 y, .int .i64 1, .int .i64 4] w fun e w' => e = .returned (.tuple #[.int .i64 a, .int .i64 0]) ∧ w = w'))
    (F2 : Hid (∀ w, Tab w → Calls Tryd.prog 24 #[.int .i64 y, .int .i64 12, .int .i64 28] w fun e w' => e = .returned (.tuple #[.int .i64 b, .int .i64 0]) ∧ w = w'))
    (W3 : Hid (∀ w, Tab w → Calls Tryd.prog 9 #[.int .i64 a] w fun e w' => e = .returned (.tuple #[.int .i64 y, .int .i64 1, .int .i64 u, .int .i64 0]) ∧ w = w'))
    (W4 : Hid (∀ w, Tab w → Calls Tryd.prog 9 #[.int .i64 b] w fun e w' => e = .returned (.tuple #[.int .i64 y, .int .i64 52, .int .i64 t, .int .i64 0]) ∧ w = w'))
    (K2 : Hid (∀ w, Tab w → Calls Tryd.prog 13 #[.int .i64 y] w fun e w' => e = .returned (.int .i64 52) ∧ w = w')) (w : World) (hT : Tabs w) :
    Calls Tryd.prog 5 #[.int .i64 n, .int .i64 y] w fun e w' => e = .returned (.bool true) ∧ Below w.heap.size w w' := by
  have HT := Lib.hid hT
  have HB := Lib.hid hT.1
  clear hT
  rcases hn with ⟨rfl, rfl⟩ | ⟨n0, n1, rfl⟩
  · go_enter Tryd.func5, Tryd.ntmps5
    go_wp2_with (first
      | (go_at_call 9; (with_reducible refine (W1.out _ HB.out).mono ?_); rintro e w' ⟨rfl, rfl⟩)
      | (go_at_call 9; (with_reducible refine (W2.out _ HB.out).mono ?_); rintro e w' ⟨rfl, rfl⟩)
      | (go_at_call 13; (with_reducible refine (K1.out _ HB.out).mono ?_); rintro e w' ⟨rfl, rfl⟩)
      | (go_at_call 24; (with_reducible refine (F1.out _ HB.out).mono ?_); rintro e w' ⟨rfl, rfl⟩)
      | (go_at_call 24; (with_reducible refine (F2.out _ HB.out).mono ?_); rintro e w' ⟨rfl, rfl⟩)
      | (go_at_call 9; (with_reducible refine (W3.out _ HB.out).mono ?_); rintro e w' ⟨rfl, rfl⟩)
      | (go_at_call 9; (with_reducible refine (W4.out _ HB.out).mono ?_); rintro e w' ⟨rfl, rfl⟩)
      | (go_at_call 13; (with_reducible refine (K2.out _ HB.out).mono ?_); rintro e w' ⟨rfl, rfl⟩)
      | (go_at_call 8; (with_reducible refine (awake _ HT.out).mono ?_); rintro e w1 ⟨rfl, b1⟩))
    go_returns
    exact ⟨rfl, b1⟩
  · go_enter Tryd.func5, Tryd.ntmps5
    go_wp2_with (first
      | (go_at_call 9; (with_reducible refine (W1.out _ HB.out).mono ?_); rintro e w' ⟨rfl, rfl⟩)
      | (go_at_call 9; (with_reducible refine (W2.out _ HB.out).mono ?_); rintro e w' ⟨rfl, rfl⟩)
      | (go_at_call 13; (with_reducible refine (K1.out _ HB.out).mono ?_); rintro e w' ⟨rfl, rfl⟩)
      | (go_at_call 24; (with_reducible refine (F1.out _ HB.out).mono ?_); rintro e w' ⟨rfl, rfl⟩)
      | (go_at_call 24; (with_reducible refine (F2.out _ HB.out).mono ?_); rintro e w' ⟨rfl, rfl⟩)
      | (go_at_call 9; (with_reducible refine (W3.out _ HB.out).mono ?_); rintro e w' ⟨rfl, rfl⟩)
      | (go_at_call 9; (with_reducible refine (W4.out _ HB.out).mono ?_); rintro e w' ⟨rfl, rfl⟩)
      | (go_at_call 13; (with_reducible refine (K2.out _ HB.out).mono ?_); rintro e w' ⟨rfl, rfl⟩)
      | (go_at_call 8; (with_reducible refine (awake _ HT.out).mono ?_); rintro e w1 ⟨rfl, b1⟩))
    go_returns
    exact ⟨rfl, b1⟩

theorem walkE53 (n m y : Int) (hn : (n = 9223372036854775807 ∧ m = wrap64 9223372036854775808) ∨ (-9223372036854775808 ≤ n ∧ n < 9223372036854775807 ∧ m = n + 1)) (Y k M : Int) (a b u t : Int) (q1 : -9999 ≤ Y) (q2 : Y ≤ 9999) (q3 : M ≤ k)
    (W1 : Hid (∀ w, Tab w → Calls Tryd.prog 9 #[.int .i64 n] w fun e w' => e = .returned (.tuple #[.int .i64 Y, .int .i64 k, .int .i64 7, .int .i64 0]) ∧ w = w'))
    (W2 : Hid (∀ w, Tab w → Calls Tryd.prog 9 #[.int .i64 m] w fun e w' => e = .returned (.tuple #[.int .i64 (Y + 1), .int .i64 1, .int .i64 1, .int .i64 0]) ∧ w = w'))
    (K1 : Hid (∀ w, Tab w → Calls Tryd.prog 13 #[.int .i64 Y] w fun e w' => e = .returned (.int .i64 M) ∧ w = w'))
    (F1 : Hid (∀ w, Tab w → Calls Tryd.prog 24 #[.int .i64 y, .int .i64 1, .int .i64 4] w fun e w' => e = .returned (.tuple #[.int .i64 a, .int .i64 0]) ∧ w = w'))
    (F2 : Hid (∀ w, Tab w → Calls Tryd.prog 24 #[.int .i64 y, .int .i64 12, .int .i64 28] w fun e w' => e = .returned (.tuple #[.int .i64 b, .int .i64 0]) ∧ w = w'))
    (W3 : Hid (∀ w, Tab w → Calls Tryd.prog 9 #[.int .i64 a] w fun e w' => e = .returned (.tuple #[.int .i64 y, .int .i64 1, .int .i64 u, .int .i64 0]) ∧ w = w'))
    (W4 : Hid (∀ w, Tab w → Calls Tryd.prog 9 #[.int .i64 b] w fun e w' => e = .returned (.tuple #[.int .i64 y, .int .i64 53, .int .i64 t, .int .i64 0]) ∧ w = w'))
    (K2 : Hid (∀ w, Tab w → Calls Tryd.prog 13 #[.int .i64 y] w fun e w' => e = .returned (.int .i64 53) ∧ w = w')) (w : World) (hT : Tabs w) :
    Calls Tryd.prog 5 #[.int .i64 n, .int .i64 y] w fun e w' => e = .returned (.bool true) ∧ Below w.heap.size w w' := by
  have HT := Lib.hid hT
  have HB := Lib.hid hT.1
  clear hT
  rcases hn with ⟨rfl, rfl⟩ | ⟨n0, n1, rfl⟩
  · go_enter Tryd.func5, Tryd.ntmps5
    go_wp2_with (first
      | (go_at_call 9; (with_reducible refine (W1.out _ HB.out).mono ?_); rintro e w' ⟨rfl, rfl⟩)
      | (go_at_call 9; (with_reducible refine (W2.out _ HB.out).mono ?_); rintro e w' ⟨rfl, rfl⟩)
      | (go_at_call 13; (with_reducible refine (K1.out _ HB.out).mono ?_); rintro e w' ⟨rfl, rfl⟩)
      | (go_at_call 24; (with_reducible refine (F1.out _ HB.out).mono ?_); rintro e w' ⟨rfl, rfl⟩)
      | (go_at_call 24; (with_reducible refine (F2.out _ HB.out).mono ?_); rintro e w' ⟨rfl, rfl⟩)
      | (go_at_call 9; (with_reducible refine (W3.out _ HB.out).mono ?_); rintro e w' ⟨rfl, rfl⟩)
      | (go_at_call 9; (with_reducible refine (W4.out _ HB.out).mono ?_); rintro e w' ⟨rfl, rfl⟩)
      | (go_at_call 13; (with_reducible refine (K2.out _ HB.out).mono ?_); rintro e w' ⟨rfl, rfl⟩)
      | (go_at_call 8; (with_reducible refine (awake _ HT.out).mono ?_); rintro e w1 ⟨rfl, b1⟩))
    go_returns
    exact ⟨rfl, b1⟩
  · go_enter Tryd.func5, Tryd.ntmps5
    go_wp2_with (first
      | (go_at_call 9; (with_reducible refine (W1.out _ HB.out).mono ?_); rintro e w' ⟨rfl, rfl⟩)
      | (go_at_call 9; (with_reducible refine (W2.out _ HB.out).mono ?_); rintro e w' ⟨rfl, rfl⟩)
      | (go_at_call 13; (with_reducible refine (K1.out _ HB.out).mono ?_); rintro e w' ⟨rfl, rfl⟩)
      | (go_at_call 24; (with_reducible refine (F1.out _ HB.out).mono ?_); rintro e w' ⟨rfl, rfl⟩)
      | (go_at_call 24; (with_reducible refine (F2.out _ HB.out).mono ?_); rintro e w' ⟨rfl, rfl⟩)
      | (go_at_call 9; (with_reducible refine (W3.out _ HB.out).mono ?_); rintro e w' ⟨rfl, rfl⟩)
      | (go_at_call 9; (with_reducible refine (W4.out _ HB.out).mono ?_); rintro e w' ⟨rfl, rfl⟩)
      | (go_at_call 13; (with_reducible refine (K2.out _ HB.out).mono ?_); rintro e w' ⟨rfl, rfl⟩)
      | (go_at_call 8; (with_reducible refine (awake _ HT.out).mono ?_); rintro e w1 ⟨rfl, b1⟩))
    go_returns
    exact ⟨rfl, b1⟩

end Go.Proofs.YtmffagkgkbdkjaaDoor
