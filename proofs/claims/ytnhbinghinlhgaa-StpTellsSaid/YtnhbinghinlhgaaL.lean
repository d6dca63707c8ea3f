/- Contracts: the document's Same, of networks that are; number. -/
import Derived.Test.YtnhbinghinlhgaaI
namespace Go.Proofs.Ytnhbinghinlhgaa
set_option linter.unusedVariables false
set_option linter.unusedSimpArgs false
open Go.ChangeShapes Go.WideShapes Go.ChangeAt Go.RowKit

theorem number_any (a : Int) (w : World) : Calls Try.prog 23 #[.int .i64 a] w fun e w' => e = .returned (.agg #[.int .i8 0, .int .i64 a]) ∧ Below w.heap.size w w' := by
  go_enter Try.func23, Try.ntmps23
  go_wp2
  go_returns
  exact ⟨rfl, by go_grown⟩

set_option maxRecDepth 100000 in
set_option maxHeartbeats 4000000 in
theorem same_net (g o n k : Nat) (b p c : Nat → Nat) (M : Mat) (g' o' k' : Nat) (b' p' c' : Nat → Nat) (N : Mat) (hn : n ≤ 24) (hk : n ≤ k) (hk' : n ≤ k') (w : World) (hw : NetAt w g o n b p c M) (hw' : NetAt w g' o' n b' p' c' N) (e : ∀ i j, i < n → j < n → M i j = N i j) :
    Calls Try.prog 19 #[.slice (some ⟨g, o, none⟩) n k, .slice (some ⟨g', o', none⟩) n k'] w fun e w' => e = .returned (.bool true) ∧ Below w.heap.size w w' := by
  have HW := Lib.hid hw
  have HW' := Lib.hid hw'
  have HE := Lib.hid e
  have t2 : ((n : Int) != (n : Int)) = false := by simp
  clear hw hw' e
  go_enter Try.func19, Try.ntmps19
  go_wp2
  go_loopw [5] (fun ii wr => ∃ i : Nat, i ≤ n ∧ ii = .int .i64 i ∧ Hid (Below w.heap.size w wr)) (fun ii _ => n - (intOf ii).toNat)
  case atStart => exact ⟨0, Nat.zero_le _, rfl, Lib.hid (Below.refl _ _)⟩
  case round =>
    obtain ⟨i, hi, rfl, HB⟩ := hrel
    by_cases ilt : i < n
    · have i0 : (0 : Int) ≤ (i : Int) := by omega
      have i1 : (i : Int) < (n : Int) := by omega
      have HR := Lib.hid (HW.out.keep HB.out)
      have HR' := Lib.hid (HW'.out.keep HB.out)
      have d1 := HR.out.row i ilt
      have d2 := HR'.out.row i ilt
      generalize hbi : b i = bi at *
      generalize hpi : p i = pi at *
      generalize c i = ci at *
      generalize hbi' : b' i = bi' at *
      generalize hpi' : p' i = pi' at *
      generalize c' i = ci' at *
      have HI := Lib.hid (And.intro hbi (And.intro hpi (And.intro hbi' hpi')))
      clear hbi hpi hbi' hpi'
      go_wp2
      go_quiet (fail)
      go_wp2
      go_loopw [6] (fun jj wi => ∃ j : Nat, j ≤ n ∧ jj = .int .i64 j ∧ Hid (Below w.heap.size w wi)) (fun jj _ => n - (intOf jj).toNat)
      case atStart => exact ⟨0, Nat.zero_le _, rfl, Lib.hid (below_drewN HB.out _)⟩
      case round =>
        clear HR HR' HB d1 d2
        obtain ⟨j, hj, rfl, HB⟩ := hrel
        have HR := Lib.hid (HW.out.keep HB.out)
        have HR' := Lib.hid (HW'.out.keep HB.out)
        have d1 := HR.out.row i ilt
        have d2 := HR'.out.row i ilt
        obtain ⟨ci, hci⟩ : ∃ q, c i = q := ⟨_, rfl⟩
        obtain ⟨ci', hci'⟩ : ∃ q, c' i = q := ⟨_, rfl⟩
        rw [HI.out.1, HI.out.2.1, hci] at d1
        rw [HI.out.2.2.1, HI.out.2.2.2, hci'] at d2
        clear hci hci'
        by_cases jlt : j < n
        · have j0 : (0 : Int) ≤ (j : Int) := by omega
          have j1 : (j : Int) < (n : Int) := by omega
          have c1 := (HR.out.cells i ilt).inf j jlt
          have c2 := (HR.out.cells i ilt).num j jlt
          have c3 := (HR'.out.cells i ilt).inf j jlt
          have c4 := (HR'.out.cells i ilt).num j jlt
          rw [← HE.out i j ilt jlt] at c3 c4
          rw [HI.out.1, HI.out.2.1] at c1 c2
          rw [HI.out.2.2.1, HI.out.2.2.2] at c3 c4
          generalize infOf (M i j) = x at *
          generalize numOf (M i j) = y at *
          go_wp2
          go_quiet (fail)
          go_wp2
          go_roundw
          case rel => exact ⟨j + 1, by omega, by go_num, Lib.hid (below_drewN HB.out _)⟩
          case measure => simp [intOf]; omega
        · go_wp2
          go_roundw
          case rel => exact ⟨i + 1, by omega, by go_num, HB⟩
          case measure => simp [intOf]; omega
    · go_wp2
      go_returns
      exact ⟨rfl, HB.out⟩
end Go.Proofs.Ytnhbinghinlhgaa
