/- L1, L2 in one. -/
import Derived.Test.YtimjendkpjojoaaGreatDoorKd
import Derived.Test.YtimjendkpjojoaaGreatDoorRows
import Derived.Test.YtimjendkpjojoaaGreatDoorKa
import Derived.Test.YtimjendkpjojoaaGreatDoorKw
import Derived.BigQuiet
import Derived.BigRegion
import Derived.Deep.AppendLies
import Derived.Deep.DeepCutAuto
import Derived.Deep.DeepFit
import Derived.Deep.MidRow
import Derived.Deep.QuietTactic
import Derived.Deep.RegionHeld3
import Derived.Deep.RegionLaw
import Derived.Handy
import Derived.IntWalk
import Derived.Laws.AppendOwn
import Derived.Laws.Bits64b
import Derived.Laws.CopyOwn
import Derived.Laws.OwnMore
import Derived.Lib.Hide
import Derived.Lib.Mul64
import Derived.Maps.AppendAt
import Derived.OpenShut
import Derived.Outline
import Derived.OwnWalk
import Derived.ProofKit
import Derived.ScopeJumps
import Derived.StillTailTactics
import Derived.WalkKit
import Derived.WalkMore
import Derived.WalkSpells
import Derived.Tactics
import Derived.Tactics2
import Derived.Laws.Pointers
import Derived.RegionTactic
import Derived.RegionCalls
import Derived.Laws.NewBlocks
import Derived.Laws.EntriesVeiled
import Derived.Below
namespace Go.Proofs.YtimjendkpjojoaaGreatDoor
set_option linter.unusedVariables false
set_option linter.unusedSimpArgs false
open Go.ChangeShapes Go.WideShapes Go.ChangeAt Go.RowKit
theorem u8c (c : UInt8) : (0 : Int) ≤ (c.toNat : Int) ∧ (c.toNat : Int) ≤ 255 := by have := c.toNat_lt; omega
theorem digit_any (c : UInt8) (w : World) : Calls Tryz.prog 47 #[.int .u8 (c.toNat : Int)] w fun e w' => e = .returned (.bool (Lx.dgt c)) ∧ w = w' := by
  obtain ⟨x, hx⟩ : ∃ x, (c.toNat : Int) = x := ⟨_, rfl⟩
  obtain ⟨r, hr⟩ : ∃ r, Lx.dgt c = r := ⟨_, rfl⟩
  have hr2 : r = true ↔ 48 ≤ x ∧ x ≤ 57 := by rw [← hr, ← hx]; unfold Lx.dgt; rw [decide_eq_true_iff]; omega
  have b := u8c c
  rw [hx] at b
  rw [hx, hr]
  clear hx hr
  by_cases h1 : 48 ≤ x
  · by_cases h2 : x ≤ 57
    · obtain rfl : r = true := hr2.2 ⟨h1, h2⟩
      clear hr2
      go_enter Tryz.func47, Tryz.ntmps47
      go_wp2
      go_returns
      exact ⟨rfl, rfl⟩
    · have h3 : decide (x ≤ 57) = false := decide_eq_false h2
      obtain rfl : r = false := by cases r; rfl; exact absurd (hr2.1 rfl).2 h2
      clear hr2
      go_enter Tryz.func47, Tryz.ntmps47
      go_wp2
      go_returns
      exact ⟨rfl, rfl⟩
  · have h3 : decide (48 ≤ x) = false := decide_eq_false h1
    obtain rfl : r = false := by cases r; rfl; exact absurd (hr2.1 rfl).1 h1
    clear hr2
    go_enter Tryz.func47, Tryz.ntmps47
    go_wp2
    go_returns
    exact ⟨rfl, rfl⟩
set_option maxHeartbeats 1000000 in
theorem letter_any (c : UInt8) (w : World) : Calls Tryz.prog 50 #[.int .u8 (c.toNat : Int)] w fun e w' => e = .returned (.bool (Lx.ltr c)) ∧ w = w' := by
  have HD := Lib.hid (digit_any c w)
  obtain ⟨x, hx⟩ : ∃ x, (c.toNat : Int) = x := ⟨_, rfl⟩
  obtain ⟨r, hr⟩ : ∃ r, Lx.ltr c = r := ⟨_, rfl⟩
  obtain ⟨q, hq⟩ : ∃ r, Lx.dgt c = r := ⟨_, rfl⟩
  have hr2 : r = true ↔ (q = true ∨ x = 95 ∨ (97 ≤ x ∧ x ≤ 122) ∨ (65 ≤ x ∧ x ≤ 90)) := by rw [← hr, ← hx, ← hq]; unfold Lx.ltr Lx.dgt; rw [decide_eq_true_iff, decide_eq_true_iff]; omega
  have b := u8c c
  rw [hx] at b HD
  rw [hq] at HD
  rw [hx, hr]
  clear hx hr hq
  cases q
  · by_cases h1 : x = 95
    · obtain rfl : r = true := hr2.2 (.inr (.inl h1))
      have h1' : (x == 95) = true := by simp [h1]
      have h1'' : decide (97 ≤ x) = false := decide_eq_false (by omega)
      clear hr2 h1
      go_enter Tryz.func50, Tryz.ntmps50
      go_wp2_with (first | ((with_reducible refine HD.out.mono ?_); rintro e w' ⟨rfl, rfl⟩))
      go_returns
      exact ⟨rfl, rfl⟩
    · have h1' : (x == 95) = false := by simp [h1]
      by_cases h2 : 97 ≤ x
      · have h2' : decide (97 ≤ x) = true := decide_eq_true h2
        have h5' : decide (x ≤ 90) = false := decide_eq_false (by omega)
        have h4' : decide (65 ≤ x) = true := decide_eq_true (by omega)
        by_cases h3 : x ≤ 122
        · have h3' : decide (x ≤ 122) = true := decide_eq_true h3
          obtain rfl : r = true := hr2.2 (.inr (.inr (.inl ⟨h2, h3⟩)))
          clear hr2 h1
          go_enter Tryz.func50, Tryz.ntmps50
          go_wp2_with (first | ((with_reducible refine HD.out.mono ?_); rintro e w' ⟨rfl, rfl⟩))
          go_returns
          exact ⟨rfl, rfl⟩
        · have h3' : decide (x ≤ 122) = false := decide_eq_false h3
          obtain rfl : r = false := by cases r; rfl; (have := hr2.1 rfl; simp at this; omega)
          clear hr2 h1
          go_enter Tryz.func50, Tryz.ntmps50
          go_wp2_with (first | ((with_reducible refine HD.out.mono ?_); rintro e w' ⟨rfl, rfl⟩))
          go_returns
          exact ⟨rfl, rfl⟩
      · have h2' : decide (97 ≤ x) = false := decide_eq_false h2
        by_cases h4 : 65 ≤ x
        · have h4' : decide (65 ≤ x) = true := decide_eq_true h4
          by_cases h5 : x ≤ 90
          · have h5' : decide (x ≤ 90) = true := decide_eq_true h5
            obtain rfl : r = true := hr2.2 (.inr (.inr (.inr ⟨h4, h5⟩)))
            clear hr2 h1
            go_enter Tryz.func50, Tryz.ntmps50
            go_wp2_with (first | ((with_reducible refine HD.out.mono ?_); rintro e w' ⟨rfl, rfl⟩))
            go_returns
            exact ⟨rfl, rfl⟩
          · have h5' : decide (x ≤ 90) = false := decide_eq_false h5
            obtain rfl : r = false := by cases r; rfl; (have := hr2.1 rfl; simp at this; omega)
            clear hr2 h1
            go_enter Tryz.func50, Tryz.ntmps50
            go_wp2_with (first | ((with_reducible refine HD.out.mono ?_); rintro e w' ⟨rfl, rfl⟩))
            go_returns
            exact ⟨rfl, rfl⟩
        · have h4' : decide (65 ≤ x) = false := decide_eq_false h4
          obtain rfl : r = false := by cases r; rfl; (have := hr2.1 rfl; simp at this; omega)
          clear hr2 h1
          go_enter Tryz.func50, Tryz.ntmps50
          go_wp2_with (first | ((with_reducible refine HD.out.mono ?_); rintro e w' ⟨rfl, rfl⟩))
          go_returns
          exact ⟨rfl, rfl⟩
  · obtain rfl : r = true := hr2.2 (.inl rfl)
    clear hr2
    go_enter Tryz.func50, Tryz.ntmps50
    go_wp2_with (first | ((with_reducible refine HD.out.mono ?_); rintro e w' ⟨rfl, rfl⟩))
    go_returns
    exact ⟨rfl, rfl⟩
theorem dlt_any (c : UInt8) (w : World) : Calls Tryz.prog 65 #[.int .u8 (c.toNat : Int)] w fun e w' => e = .returned (.bool (Lx.dlt c)) ∧ w = w' := by
  have HD := Lib.hid (letter_any c w)
  obtain ⟨x, hx⟩ : ∃ x, (c.toNat : Int) = x := ⟨_, rfl⟩
  obtain ⟨r, hr⟩ : ∃ r, Lx.dlt c = r := ⟨_, rfl⟩
  obtain ⟨q, hq⟩ : ∃ r, Lx.ltr c = r := ⟨_, rfl⟩
  have hr2 : r = true ↔ (x = 45 ∨ q = true) := by rw [← hr, ← hx, ← hq]; unfold Lx.dlt; rw [decide_eq_true_iff]; exact ⟨fun h => h.imp (fun z => by omega) id, fun h => h.imp (fun z => by omega) id⟩
  have b := u8c c
  rw [hx] at b HD
  rw [hq] at HD
  rw [hx, hr]
  clear hx hr hq
  by_cases h1 : x = 45
  · have h1' : (x == 45) = true := by simp [h1]
    obtain rfl : r = true := hr2.2 (.inl h1)
    clear hr2 h1
    go_enter Tryz.func65, Tryz.ntmps65
    go_wp2
    go_returns
    exact ⟨rfl, rfl⟩
  · have h1' : (x == 45) = false := by simp [h1]
    obtain rfl : r = q := by
      cases q <;> cases r <;> simp_all
    clear hr2 h1
    go_enter Tryz.func65, Tryz.ntmps65
    go_wp2_with (first | ((with_reducible refine HD.out.mono ?_); rintro e w' ⟨rfl, rfl⟩))
    go_returns
    exact ⟨rfl, rfl⟩
theorem get_list (s : ByteArray) (k : Nat) (h : k < s.size) : s.data.toList[k]'(by rw [← Lib.size_eq]; exact h) = s[k] := rfl
theorem drop_at (s : ByteArray) (k : Nat) (h : k < s.size) : s.data.toList.drop k = s[k] :: s.data.toList.drop (k + 1) := by
  rw [List.drop_eq_getElem_cons (by rw [← Lib.size_eq]; exact h), get_list]
set_option maxHeartbeats 1000000 in
theorem run_any (p : UInt8 → Bool) (K : FuncId) (hE : ∀ (args : Array Value) (w : World), (callFunc K args).run Tryz.prog w = .ok (.enter K args) w) (hK : ∀ (c : UInt8) (w : World), Calls Tryz.prog K #[.int .u8 (c.toNat : Int)] w fun e w' => e = .returned (.bool (p c)) ∧ w = w') (s : ByteArray) (w : World) (hs : s.size ≤ maxLen) :
    Calls Tryz.prog 49 #[.string s, .func (.func K) #[] #[]] w fun e w' => e = .returned (.int .i64 (Lx.run p s.data.toList : Nat)) ∧ w = w' := by
  unfold maxLen at hs
  have HK := Lib.hid hK
  obtain ⟨R, hR⟩ : ∃ R, Lx.run p s.data.toList = R := ⟨_, rfl⟩
  have HR := Lib.hid hR
  rw [hR]
  clear hK hR
  go_enter Tryz.func49, Tryz.ntmps49
  go_wp2
  go_loop [5] (fun ii => ∃ k : Nat, k ≤ s.size ∧ ii = .int .i64 k ∧ Hid (Lx.run p (s.data.toList.drop k) + k = R)) (fun ii => s.size - (intOf ii).toNat)
  case atStart => exact ⟨0, Nat.zero_le _, rfl, Lib.hid (by rw [List.drop_zero, HR.out]; rfl)⟩
  case round =>
    obtain ⟨k, hk, rfl, HH⟩ := hrel
    have i0 : (0 : Int) ≤ (k : Int) := by omega
    by_cases klt : k < s.size
    · have i1 : (k : Int) < s.size := by omega
      have HC := Lib.hid (HK.out s[k] w)
      have HD := Lib.hid (drop_at s k klt)
      obtain ⟨x, hx⟩ : ∃ x : Int, ((s[k]).toNat : Int) = x := ⟨_, rfl⟩
      obtain ⟨r, hr⟩ : ∃ r, p s[k] = r := ⟨_, rfl⟩
      rw [hx, hr] at HC
      have HPR := Lib.hid hr
      clear hr
      cases r
      · obtain rfl : k = R := by
          have := HH.out
          rw [HD.out, Lx.run_cons, HPR.out] at this
          simpa using this
        go_wp2_with (first | ((with_reducible refine HC.out.mono ?_); rintro e w' ⟨rfl, rfl⟩))
        go_returns
        exact ⟨rfl, rfl⟩
      · have HH2 : Hid (Lx.run p (s.data.toList.drop (k + 1)) + (k + 1) = R) := Lib.hid (by
          have := HH.out
          rw [HD.out, Lx.run_cons, HPR.out, if_pos rfl] at this
          omega)
        go_wp2_with (first | ((with_reducible refine HC.out.mono ?_); rintro e w' ⟨rfl, rfl⟩))
        go_round
        case rel => exact ⟨k + 1, by omega, by go_num, HH2⟩
        case measure => simp [intOf]; omega
    · have i1 : (s.size : Int) ≤ (k : Int) := by omega
      obtain rfl : k = R := by
        have := HH.out
        rw [List.drop_of_length_le (by rw [← Lib.size_eq]; omega), Lx.run_nil] at this
        omega
      go_wp2
      go_returns
      exact ⟨rfl, rfl⟩
theorem enters27 : ∀ (args : Array Value) (w : World), (callFunc 47 args).run Tryz.prog w = .ok (.enter 47 args) w := enters_of Tryz.func47 (by kernel_rfl) rfl
theorem enters29 : ∀ (args : Array Value) (w : World), (callFunc 50 args).run Tryz.prog w = .ok (.enter 50 args) w := enters_of Tryz.func50 (by kernel_rfl) rfl
theorem enters48 : ∀ (args : Array Value) (w : World), (callFunc 65 args).run Tryz.prog w = .ok (.enter 65 args) w := enters_of Tryz.func65 (by kernel_rfl) rfl
theorem runD (s : ByteArray) (w : World) (hs : s.size ≤ maxLen) : Calls Tryz.prog 49 #[.string s, .func (.func 47) #[] #[]] w fun e w' => e = .returned (.int .i64 (Lx.run Lx.dgt s.data.toList : Nat)) ∧ w = w' := run_any Lx.dgt 47 enters27 digit_any s w hs
theorem runL (s : ByteArray) (w : World) (hs : s.size ≤ maxLen) : Calls Tryz.prog 49 #[.string s, .func (.func 50) #[] #[]] w fun e w' => e = .returned (.int .i64 (Lx.run Lx.ltr s.data.toList : Nat)) ∧ w = w' := run_any Lx.ltr 50 enters29 letter_any s w hs
theorem runT (s : ByteArray) (w : World) (hs : s.size ≤ maxLen) : Calls Tryz.prog 49 #[.string s, .func (.func 65) #[] #[]] w fun e w' => e = .returned (.int .i64 (Lx.run Lx.dlt s.data.toList : Nat)) ∧ w = w' := run_any Lx.dlt 65 enters48 dlt_any s w hs
theorem name_iff (s : ByteArray) (h0 : 0 < s.size) : Lx.nameOk s.data.toList = true ↔ s.size ≤ 30 ∧ Lx.dgt s[0] = false ∧ Lx.run Lx.ltr s.data.toList = s.size := by
  unfold Lx.nameOk
  rw [decide_eq_true_iff, ← Lib.size_eq]
  have e : s.data.toList[0]? = some s[0] := by rw [List.getElem?_eq_getElem (by rw [← Lib.size_eq]; exact h0), get_list]
  constructor
  · rintro ⟨a, b, c, d⟩; exact ⟨b, c _ e, d⟩
  · rintro ⟨b, c, d⟩
    exact ⟨h0, b, fun x hx => by rw [e] at hx; cases hx; exact c, d⟩
set_option maxHeartbeats 1000000 in
theorem name_any (s : ByteArray) (w : World) (hs : s.size ≤ maxLen) : Calls Tryz.prog 51 #[.string s] w fun e w' => e = .returned (.bool (Lx.nameOk s.data.toList)) ∧ w = w' := by
  have HRL := Lib.hid (runL s w hs)
  unfold maxLen at hs
  obtain ⟨r, hr⟩ : ∃ r, Lx.nameOk s.data.toList = r := ⟨_, rfl⟩
  rw [hr]
  by_cases h0 : 0 < s.size
  · have h0' : (1 : Int) ≤ s.size := by omega
    have h0'' : (0 : Int) < s.size := by omega
    have hi := name_iff s h0
    rw [hr] at hi
    have HI := Lib.hid hi
    have HD := Lib.hid (digit_any s[0] w)
    obtain ⟨x, hx⟩ : ∃ x : Int, ((s[0]).toNat : Int) = x := ⟨_, rfl⟩
    obtain ⟨q, hq⟩ : ∃ r, Lx.dgt s[0] = r := ⟨_, rfl⟩
    obtain ⟨n, hn⟩ : ∃ n, Lx.run Lx.ltr s.data.toList = n := ⟨_, rfl⟩
    rw [hq, hn] at HI
    rw [hx, hq] at HD
    rw [hn] at HRL
    clear hq hn hi hr
    by_cases h1 : (s.size : Int) ≤ 30
    · cases q
      · by_cases h2 : n = s.size
        · obtain rfl : r = true := HI.out.2 ⟨by omega, rfl, h2⟩
          subst h2
          go_enter Tryz.func51, Tryz.ntmps51
          go_wp2_with (first | ((with_reducible refine HD.out.mono ?_); rintro e w' ⟨rfl, rfl⟩) | ((with_reducible refine HRL.out.mono ?_); rintro e w' ⟨rfl, rfl⟩))
          go_returns
          exact ⟨rfl, rfl⟩
        · have h2' : ((n : Int) == (s.size : Int)) = false := by simp; omega
          obtain rfl : r = false := by cases r; rfl; exact absurd (HI.out.1 rfl).2.2 h2
          go_enter Tryz.func51, Tryz.ntmps51
          go_wp2_with (first | ((with_reducible refine HD.out.mono ?_); rintro e w' ⟨rfl, rfl⟩) | ((with_reducible refine HRL.out.mono ?_); rintro e w' ⟨rfl, rfl⟩))
          go_returns
          exact ⟨rfl, rfl⟩
      · obtain rfl : r = false := by cases r; rfl; exact absurd (HI.out.1 rfl).2.1 (by simp)
        go_enter Tryz.func51, Tryz.ntmps51
        go_wp2_with (first | ((with_reducible refine HD.out.mono ?_); rintro e w' ⟨rfl, rfl⟩) | ((with_reducible refine HRL.out.mono ?_); rintro e w' ⟨rfl, rfl⟩))
        go_returns
        exact ⟨rfl, rfl⟩
    · have h1' : decide ((s.size : Int) ≤ 30) = false := decide_eq_false h1
      obtain rfl : r = false := by cases r; rfl; exact absurd (HI.out.1 rfl).1 (by omega)
      go_enter Tryz.func51, Tryz.ntmps51
      go_wp2
      go_returns
      exact ⟨rfl, rfl⟩
  · have h0' : decide ((1 : Int) ≤ s.size) = false := decide_eq_false (by omega)
    obtain rfl : r = false := by
      rw [← hr]; unfold Lx.nameOk
      rw [decide_eq_false_iff_not, ← Lib.size_eq]
      rintro ⟨a, _⟩; omega
    clear hr
    go_enter Tryz.func51, Tryz.ntmps51
    go_wp2
    go_returns
    exact ⟨rfl, rfl⟩
end Go.Proofs.YtimjendkpjojoaaGreatDoor
