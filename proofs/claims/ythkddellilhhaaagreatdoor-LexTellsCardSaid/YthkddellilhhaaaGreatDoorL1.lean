/- lex: bytes, runs, right names. -/
import Derived.Test.YthkddellilhhaaaGreatDoorRows
import Derived.Test.YthkddellilhhaaaGreatDoorP2
import Derived.Test.YthkddellilhhaaaGreatDoorShelf
import Derived.BigQuiet
import Derived.BigRegion
import Derived.Deep.AppendLies
import Derived.Deep.DeepCutAuto
import Derived.Deep.DeepFit
import Derived.Deep.MidRow
import Derived.Deep.QuietTactic
import Derived.Deep.RegionHeld3
import Derived.Deep.RegionLaw
import Derived.Handy
import Derived.IntWalk
import Derived.Laws.AppendOwn
import Derived.Laws.Bits64b
import Derived.Laws.CopyOwn
import Derived.Laws.OwnMore
import Derived.Lib.Hide
import Derived.Lib.Mul64
import Derived.Maps.AppendAt
import Derived.OpenShut
import Derived.Outline
import Derived.OwnWalk
import Derived.ProofKit
import Derived.ScopeJumps
import Derived.StillTailTactics
import Derived.WalkKit
import Derived.WalkMore
import Derived.WalkSpells
import Derived.Tactics
import Derived.Tactics2
import Derived.Laws.Pointers
import Derived.RegionTactic
import Derived.RegionCalls
import Derived.Laws.NewBlocks
import Derived.Laws.EntriesVeiled
import Derived.Below
namespace Go.Proofs.YthkddellilhhaaaGreatDoor
set_option linter.unusedVariables false
set_option linter.unusedSimpArgs false
open Go.ChangeShapes Go.WideShapes Go.ChangeAt Go.RowKit
theorem cell_here {w : World} {a : Addr} {v : Value} (h : w.cell? a = some v) : a.block < w.heap.size := by
  rcases Nat.lt_or_ge a.block w.heap.size with h' | h'
  · exact h'
  · unfold World.cell? at h
    rw [Array.getElem?_eq_none h'] at h; simp at h
theorem u8c (c : UInt8) : (0 : Int) ≤ (c.toNat : Int) ∧ (c.toNat : Int) ≤ 255 := by have := c.toNat_lt; omega
theorem digit_any (c : UInt8) (w : World) : Calls Tryz.prog 28 #[.int .u8 (c.toNat : Int)] w fun e w' => e = .returned (.bool (Lx.dgt c)) ∧ w = w' := by
  obtain ⟨x, hx⟩ : ∃ x, (c.toNat : Int) = x := ⟨_, rfl⟩
  obtain ⟨r, hr⟩ : ∃ r, Lx.dgt c = r := ⟨_, rfl⟩
  have hr2 : r = true ↔ 48 ≤ x ∧ x ≤ 57 := by rw [← hr, ← hx]; unfold Lx.dgt; rw [decide_eq_true_iff]; omega
  have b := u8c c
  rw [hx] at b
  rw [hx, hr]
  clear hx hr
  by_cases h1 : 48 ≤ x
  · by_cases h2 : x ≤ 57
    · obtain rfl : r = true := hr2.2 ⟨h1, h2⟩
      clear hr2
      go_enter Tryz.func28, Tryz.ntmps28
      go_wp2
      go_returns
      exact ⟨rfl, rfl⟩
    · have h3 : decide (x ≤ 57) = false := decide_eq_false h2
      obtain rfl : r = false := by cases r; rfl; exact absurd (hr2.1 rfl).2 h2
      clear hr2
      go_enter Tryz.func28, Tryz.ntmps28
      go_wp2
      go_returns
      exact ⟨rfl, rfl⟩
  · have h3 : decide (48 ≤ x) = false := decide_eq_false h1
    obtain rfl : r = false := by cases r; rfl; exact absurd (hr2.1 rfl).1 h1
    clear hr2
    go_enter Tryz.func28, Tryz.ntmps28
    go_wp2
    go_returns
    exact ⟨rfl, rfl⟩
set_option maxHeartbeats 1000000 in
theorem letter_any (c : UInt8) (w : World) : Calls Tryz.prog 31 #[.int .u8 (c.toNat : Int)] w fun e w' => e = .returned (.bool (Lx.ltr c)) ∧ w = w' := by
  have HD := Lib.hid (digit_any c w)
  obtain ⟨x, hx⟩ : ∃ x, (c.toNat : Int) = x := ⟨_, rfl⟩
  obtain ⟨r, hr⟩ : ∃ r, Lx.ltr c = r := ⟨_, rfl⟩
  obtain ⟨q, hq⟩ : ∃ r, Lx.dgt c = r := ⟨_, rfl⟩
  have hr2 : r = true ↔ (q = true ∨ x = 95 ∨ (97 ≤ x ∧ x ≤ 122) ∨ (65 ≤ x ∧ x ≤ 90)) := by rw [← hr, ← hx, ← hq]; unfold Lx.ltr Lx.dgt; rw [decide_eq_true_iff, decide_eq_true_iff]; omega
  have b := u8c c
  rw [hx] at b HD
  rw [hq] at HD
  rw [hx, hr]
  clear hx hr hq
  cases q
  · by_cases h1 : x = 95
    · obtain rfl : r = true := hr2.2 (.inr (.inl h1))
      have h1' : (x == 95) = true := by simp [h1]
      have h1'' : decide (97 ≤ x) = false := decide_eq_false (by omega)
      clear hr2 h1
      go_enter Tryz.func31, Tryz.ntmps31
      go_wp2_with (first | ((with_reducible refine HD.out.mono ?_); rintro e w' ⟨rfl, rfl⟩))
      go_returns
      exact ⟨rfl, rfl⟩
    · have h1' : (x == 95) = false := by simp [h1]
      by_cases h2 : 97 ≤ x
      · have h2' : decide (97 ≤ x) = true := decide_eq_true h2
        have h5' : decide (x ≤ 90) = false := decide_eq_false (by omega)
        have h4' : decide (65 ≤ x) = true := decide_eq_true (by omega)
        by_cases h3 : x ≤ 122
        · have h3' : decide (x ≤ 122) = true := decide_eq_true h3
          obtain rfl : r = true := hr2.2 (.inr (.inr (.inl ⟨h2, h3⟩)))
          clear hr2 h1
          go_enter Tryz.func31, Tryz.ntmps31
          go_wp2_with (first | ((with_reducible refine HD.out.mono ?_); rintro e w' ⟨rfl, rfl⟩))
          go_returns
          exact ⟨rfl, rfl⟩
        · have h3' : decide (x ≤ 122) = false := decide_eq_false h3
          obtain rfl : r = false := by cases r; rfl; (have := hr2.1 rfl; simp at this; omega)
          clear hr2 h1
          go_enter Tryz.func31, Tryz.ntmps31
          go_wp2_with (first | ((with_reducible refine HD.out.mono ?_); rintro e w' ⟨rfl, rfl⟩))
          go_returns
          exact ⟨rfl, rfl⟩
      · have h2' : decide (97 ≤ x) = false := decide_eq_false h2
        by_cases h4 : 65 ≤ x
        · have h4' : decide (65 ≤ x) = true := decide_eq_true h4
          by_cases h5 : x ≤ 90
          · have h5' : decide (x ≤ 90) = true := decide_eq_true h5
            obtain rfl : r = true := hr2.2 (.inr (.inr (.inr ⟨h4, h5⟩)))
            clear hr2 h1
            go_enter Tryz.func31, Tryz.ntmps31
            go_wp2_with (first | ((with_reducible refine HD.out.mono ?_); rintro e w' ⟨rfl, rfl⟩))
            go_returns
            exact ⟨rfl, rfl⟩
          · have h5' : decide (x ≤ 90) = false := decide_eq_false h5
            obtain rfl : r = false := by cases r; rfl; (have := hr2.1 rfl; simp at this; omega)
            clear hr2 h1
            go_enter Tryz.func31, Tryz.ntmps31
            go_wp2_with (first | ((with_reducible refine HD.out.mono ?_); rintro e w' ⟨rfl, rfl⟩))
            go_returns
            exact ⟨rfl, rfl⟩
        · have h4' : decide (65 ≤ x) = false := decide_eq_false h4
          obtain rfl : r = false := by cases r; rfl; (have := hr2.1 rfl; simp at this; omega)
          clear hr2 h1
          go_enter Tryz.func31, Tryz.ntmps31
          go_wp2_with (first | ((with_reducible refine HD.out.mono ?_); rintro e w' ⟨rfl, rfl⟩))
          go_returns
          exact ⟨rfl, rfl⟩
  · obtain rfl : r = true := hr2.2 (.inl rfl)
    clear hr2
    go_enter Tryz.func31, Tryz.ntmps31
    go_wp2_with (first | ((with_reducible refine HD.out.mono ?_); rintro e w' ⟨rfl, rfl⟩))
    go_returns
    exact ⟨rfl, rfl⟩
theorem dlt_any (c : UInt8) (w : World) : Calls Tryz.prog 47 #[.int .u8 (c.toNat : Int)] w fun e w' => e = .returned (.bool (Lx.dlt c)) ∧ w = w' := by
  have HD := Lib.hid (letter_any c w)
  obtain ⟨x, hx⟩ : ∃ x, (c.toNat : Int) = x := ⟨_, rfl⟩
  obtain ⟨r, hr⟩ : ∃ r, Lx.dlt c = r := ⟨_, rfl⟩
  obtain ⟨q, hq⟩ : ∃ r, Lx.ltr c = r := ⟨_, rfl⟩
  have hr2 : r = true ↔ (x = 45 ∨ q = true) := by rw [← hr, ← hx, ← hq]; unfold Lx.dlt; rw [decide_eq_true_iff]; exact ⟨fun h => h.imp (fun z => by omega) id, fun h => h.imp (fun z => by omega) id⟩
  have b := u8c c
  rw [hx] at b HD
  rw [hq] at HD
  rw [hx, hr]
  clear hx hr hq
  by_cases h1 : x = 45
  · have h1' : (x == 45) = true := by simp [h1]
    obtain rfl : r = true := hr2.2 (.inl h1)
    clear hr2 h1
    go_enter Tryz.func47, Tryz.ntmps47
    go_wp2
    go_returns
    exact ⟨rfl, rfl⟩
  · have h1' : (x == 45) = false := by simp [h1]
    obtain rfl : r = q := by
      cases q <;> cases r <;> simp_all
    clear hr2 h1
    go_enter Tryz.func47, Tryz.ntmps47
    go_wp2_with (first | ((with_reducible refine HD.out.mono ?_); rintro e w' ⟨rfl, rfl⟩))
    go_returns
    exact ⟨rfl, rfl⟩
end Go.Proofs.YthkddellilhhaaaGreatDoor
