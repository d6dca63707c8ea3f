/- Contracts over networks that came in as they are: Set where it tells an error. -/
import Derived.Test.YtnhbinghinlhgaaT5
namespace Go.Proofs.Ytnhbinghinlhgaa
set_option linter.unusedVariables false
set_option linter.unusedSimpArgs false
open Go.ChangeShapes Go.WideShapes Go.ChangeAt Go.RowKit
set_option maxRecDepth 100000 in
set_option maxHeartbeats 4000000 in
theorem set_wrong (ao : Option Addr) (N k : Nat) (ra : Nat → Option Addr) (L c : Nat → Nat) (X Y : Nat → Nat → Int) (i j x y : Int) (w : World) (hw : RawNet w ao N k ra L c X Y) (h : ¬ (RightIs N L X Y ∧ (0 ≤ i ∧ i < N) ∧ (0 ≤ j ∧ j < N) ∧ allowedB x y = true)) :
    Calls Try.prog 14 #[.slice ao N k, .int .i64 i, .int .i64 j, .agg #[.int .i8 x, .int .i64 y]] w fun e w' => e = .returned (.tuple #[.slice none 0 0, .int .i64 2]) ∧ Below w.heap.size w w' := by
  have W := Lib.hid (fun (w' : World) (hb : Below w.heap.size w w') => hw.keep hb)
  by_cases hr : RightIs N L X Y
  · have R := Lib.hid (fun (w' : World) (hb : Below w.heap.size w w') => right_raw ao N k ra L c X Y w' (W.out w' hb) true ⟨fun _ => hr, fun _ => rfl⟩)
    clear W hw
    by_cases h1 : i < 0
    · clear h hr
      go_enter Try.func14, Try.ntmps14
      go_wp2_with (first
        | (go_at_call 11; (with_reducible refine (R.out _ ((Below.refl _ w).alloc (Nat.le_refl _) _)).mono ?_); rintro e w1 ⟨rfl, b1⟩; have HB1 := Lib.hid (((Below.refl _ w).alloc (Nat.le_refl _) (.cells #[.int .i8 x, .int .i64 y] 26)).trans (b1.mono (by simp))); have HC1 := Lib.hid (And.intro (cell_keep (box_cells w (.int .i8 x) (.int .i64 y) 26).1 b1) (cell_keep (box_cells w (.int .i8 x) (.int .i64 y) 26).2 b1)); obtain ⟨q1, q2⟩ := HC1.out; clear b1))
      go_returns
      exact ⟨rfl, HB1.out⟩
    · by_cases h2 : (N : Int) ≤ i
      · clear h hr
        go_enter Try.func14, Try.ntmps14
        go_wp2_with (first
          | (go_at_call 11; (with_reducible refine (R.out _ ((Below.refl _ w).alloc (Nat.le_refl _) _)).mono ?_); rintro e w1 ⟨rfl, b1⟩; have HB1 := Lib.hid (((Below.refl _ w).alloc (Nat.le_refl _) (.cells #[.int .i8 x, .int .i64 y] 26)).trans (b1.mono (by simp))); have HC1 := Lib.hid (And.intro (cell_keep (box_cells w (.int .i8 x) (.int .i64 y) 26).1 b1) (cell_keep (box_cells w (.int .i8 x) (.int .i64 y) 26).2 b1)); obtain ⟨q1, q2⟩ := HC1.out; clear b1))
        go_returns
        exact ⟨rfl, HB1.out⟩
      · by_cases h3 : j < 0
        · clear h hr
          go_enter Try.func14, Try.ntmps14
          go_wp2_with (first
            | (go_at_call 11; (with_reducible refine (R.out _ ((Below.refl _ w).alloc (Nat.le_refl _) _)).mono ?_); rintro e w1 ⟨rfl, b1⟩; have HB1 := Lib.hid (((Below.refl _ w).alloc (Nat.le_refl _) (.cells #[.int .i8 x, .int .i64 y] 26)).trans (b1.mono (by simp))); have HC1 := Lib.hid (And.intro (cell_keep (box_cells w (.int .i8 x) (.int .i64 y) 26).1 b1) (cell_keep (box_cells w (.int .i8 x) (.int .i64 y) 26).2 b1)); obtain ⟨q1, q2⟩ := HC1.out; clear b1))
          go_returns
          exact ⟨rfl, HB1.out⟩
        · by_cases h4 : (N : Int) ≤ j
          · clear h hr
            go_enter Try.func14, Try.ntmps14
            go_wp2_with (first
              | (go_at_call 11; (with_reducible refine (R.out _ ((Below.refl _ w).alloc (Nat.le_refl _) _)).mono ?_); rintro e w1 ⟨rfl, b1⟩; have HB1 := Lib.hid (((Below.refl _ w).alloc (Nat.le_refl _) (.cells #[.int .i8 x, .int .i64 y] 26)).trans (b1.mono (by simp))); have HC1 := Lib.hid (And.intro (cell_keep (box_cells w (.int .i8 x) (.int .i64 y) 26).1 b1) (cell_keep (box_cells w (.int .i8 x) (.int .i64 y) 26).2 b1)); obtain ⟨q1, q2⟩ := HC1.out; clear b1))
            go_returns
            exact ⟨rfl, HB1.out⟩
          · have ha : allowedB x y = false := by
              cases e : allowedB x y
              · rfl
              · exact absurd ⟨hr, ⟨by omega, by omega⟩, ⟨by omega, by omega⟩, e⟩ h
            have A : Hid (∀ w, Calls Try.prog 25 #[.agg #[.int .i8 x, .int .i64 y]] w fun e w' => e = .returned (.bool false) ∧ Below w.heap.size w w') := Lib.hid (fun w => ha ▸ allowed_any x y w)
            clear h hr ha
            go_enter Try.func14, Try.ntmps14
            go_wp2_with (first
              | (go_at_call 11; (with_reducible refine (R.out _ ((Below.refl _ w).alloc (Nat.le_refl _) _)).mono ?_); rintro e w1 ⟨rfl, b1⟩; have HB1 := Lib.hid (((Below.refl _ w).alloc (Nat.le_refl _) (.cells #[.int .i8 x, .int .i64 y] 26)).trans (b1.mono (by simp))); have HC1 := Lib.hid (And.intro (cell_keep (box_cells w (.int .i8 x) (.int .i64 y) 26).1 b1) (cell_keep (box_cells w (.int .i8 x) (.int .i64 y) 26).2 b1)); obtain ⟨q1, q2⟩ := HC1.out; clear b1)
              | (go_at_call 25; (with_reducible refine (A.out _).mono ?_); rintro e w2 ⟨rfl, b2⟩; have HB2 := Lib.hid (HB1.out.trans (b2.mono HB1.out.size)); clear b2))
            go_returns
            exact ⟨rfl, HB2.out⟩
  · have R := Lib.hid (fun (w' : World) (hb : Below w.heap.size w w') => right_raw ao N k ra L c X Y w' (W.out w' hb) false ⟨fun e => (by cases e), fun e => absurd e hr⟩)
    clear W hw h hr
    go_enter Try.func14, Try.ntmps14
    go_wp2_with (first
      | (go_at_call 11; (with_reducible refine (R.out _ ((Below.refl _ w).alloc (Nat.le_refl _) _)).mono ?_); rintro e w1 ⟨rfl, b1⟩; have HB1 := Lib.hid (((Below.refl _ w).alloc (Nat.le_refl _) (.cells #[.int .i8 x, .int .i64 y] 26)).trans (b1.mono (by simp))); have HC1 := Lib.hid (And.intro (cell_keep (box_cells w (.int .i8 x) (.int .i64 y) 26).1 b1) (cell_keep (box_cells w (.int .i8 x) (.int .i64 y) 26).2 b1)); obtain ⟨q1, q2⟩ := HC1.out; clear b1))
    go_returns
    exact ⟨rfl, HB1.out⟩
end Go.Proofs.Ytnhbinghinlhgaa
