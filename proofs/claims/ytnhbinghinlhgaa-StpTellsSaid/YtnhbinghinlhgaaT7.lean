/- Contracts over networks that came in as they are: both Holds tell the same; New at no size. -/
import Derived.Test.YtnhbinghinlhgaaT6
namespace Go.Proofs.Ytnhbinghinlhgaa
set_option linter.unusedVariables false
set_option linter.unusedSimpArgs false
open Go.ChangeShapes Go.WideShapes Go.ChangeAt Go.RowKit
theorem holds_both (ao : Option Addr) (N k : Nat) (ra : Nat → Option Addr) (L c : Nat → Nat) (X Y : Nat → Nat → Int) (ta : Option Addr) (m tc : Nat) (t : Nat → Int) (w : World) (hw : RawNet w ao N k ra L c X Y) (ht : TickIs w ta m tc t) :
    ∃ r : Bool, (∀ w', Below w.heap.size w w' → Calls Try.prog 12 #[.slice ao N k, .slice ta m tc] w' fun e w'' => e = .returned (.bool r) ∧ Below w'.heap.size w' w'') ∧
      (∀ w', Below w.heap.size w w' → Calls Try.prog 13 #[.slice ao N k, .slice ta m tc] w' fun e w'' => e = .returned (.bool r) ∧ Below w'.heap.size w' w'') := by
  by_cases h : RightIs N L X Y ∧ m = N
  · obtain ⟨hr, rfl⟩ := h
    by_cases h0 : 0 < m
    · obtain ⟨g, o, rfl, _⟩ := hw.rows h0
      obtain ⟨tb, tq, rfl, hi⟩ := ht.ints h0
      obtain ⟨b, p, M, hn, hf⟩ := raw_right hw hr
      obtain ⟨r, hs⟩ := sat_bool m t M
      exact ⟨r, fun w' hb => holds_any g o m k b p c M hr.1 hw.le hw.top hf tb tq tc t ht.le ht.top w' (hn.keep hb) (hi.keep hb) r hs,
        fun w' hb => rholds_net g o m k b p c M h0 hr.1 hw.le hw.top hf tb tq tc t ht.le ht.top w' (hn.keep hb) (hi.keep hb) r hs⟩
    · obtain rfl : m = 0 := by omega
      exact ⟨true, fun w' hb => holds_zero ao k ra L c X Y ta tc w' (hw.keep hb), fun w' hb => rholds_zero ao k ra L c X Y ta tc w' (hw.keep hb)⟩
  · exact ⟨false, fun w' hb => holds_false ao N k ra L c X Y ta m tc w' (hw.keep hb) h, fun w' hb => rholds_false ao N k ra L c X Y ta m tc w' (hw.keep hb) h⟩
theorem right_both (ao : Option Addr) (N k : Nat) (ra : Nat → Option Addr) (L c : Nat → Nat) (X Y : Nat → Nat → Int) (w : World) (hw : RawNet w ao N k ra L c X Y) :
    ∃ r : Bool, (r = true ↔ RightIs N L X Y) ∧ (∀ w', Below w.heap.size w w' → Calls Try.prog 11 #[.slice ao N k] w' fun e w'' => e = .returned (.bool r) ∧ Below w'.heap.size w' w'') ∧
      (∀ w', Below w.heap.size w w' → Calls Try.prog 10 #[.slice ao N k] w' fun e w'' => e = .returned (.bool r) ∧ Below w'.heap.size w' w'') := by
  obtain ⟨r, hr⟩ : ∃ r : Bool, (r = true ↔ RightIs N L X Y) := by
    by_cases q : RightIs N L X Y
    · exact ⟨true, by simp [q]⟩
    · exact ⟨false, by simp [q]⟩
  exact ⟨r, hr, fun w' hb => right_raw ao N k ra L c X Y w' (hw.keep hb) r hr, fun w' hb => rright_raw ao N k ra L c X Y w' (hw.keep hb) r hr⟩
theorem new_zero (w : World) : Calls Try.prog 9 #[.int .i64 0] w fun e w' => ∃ ao k, e = .returned (.tuple #[.slice ao 0 k, .int .i64 0]) ∧ RawNet w' ao 0 k (fun _ => none) (fun _ => 0) (fun _ => 0) (fun _ _ => 0) (fun _ _ => 0) ∧ Below w.heap.size w w' := by
  obtain ⟨i0, hi, hz0, hz1, hz2⟩ := info_parts info30
  have HI := Lib.hid hi
  have HZ0 := Lib.hid hz0
  have HZ1 := Lib.hid hz1
  have HZ2 := Lib.hid hz2
  clear hi hz0 hz1
  go_enter Try.func9, Try.ntmps9
  go_wp2_with (at_make; refine wpList_make_full _ rfl _ _ 22 rfl w.heap.size 30 i0 (.slice none 0 0) 1 Try.underlying22 HI.out HZ0.out HZ1.out .i64 .i64 _ _ 0 rfl rfl rfl rfl (by rw [HZ2.out]; omega) (by unfold maxLen; omega) (Nat.le_refl _) ?_; intro w1 hown hgro; have HB := Lib.hid ((Below.refl _ w).grown hgro (Nat.le_refl _) (fun k hk => by cases hk)); clear hown hgro)
  go_loopw [16] (fun ii wr => ii = .int .i64 0 ∧ wr = w1) (fun ii _ => 0)
  case atStart => exact ⟨rfl, rfl⟩
  case round =>
    obtain ⟨rfl, rfl⟩ := hrel
    go_wp2
    go_returns
    exact ⟨_, _, rfl, ⟨Nat.le_refl _, by omega, (by intro e; exact ⟨rfl, rfl⟩), fun h => absurd h (Nat.lt_irrefl _), fun i h => absurd h (Nat.not_lt_zero _), fun i h => absurd h (Nat.not_lt_zero _)⟩, HB.out⟩
end Go.Proofs.Ytnhbinghinlhgaa
