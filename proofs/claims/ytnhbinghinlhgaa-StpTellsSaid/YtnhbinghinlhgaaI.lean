/- Contracts: atMost, Holds; square. -/
import Derived.Test.YtnhbinghinlhgaaE
namespace Go.Proofs.Ytnhbinghinlhgaa
set_option linter.unusedVariables false
set_option linter.unusedSimpArgs false
open Go.ChangeShapes Go.WideShapes Go.ChangeAt Go.RowKit

abbrev I64 (a : Int) : Prop := -9223372036854775808 ≤ a ∧ a ≤ 9223372036854775807
/-- Is y - x at most a? -/
def mostB (y x a : Int) : Bool := decide (y - x ≤ a)
theorem atMost_any (y x a : Int) (hy : I64 y) (hx : I64 x) (ha : I64 a) (w : World) :
    Calls Try.prog 27 #[.int .i64 y, .int .i64 x, .int .i64 a] w fun e w' => e = .returned (.bool (mostB y x a)) ∧ w' = w := by
  obtain ⟨hy1, hy2⟩ := hy
  obtain ⟨hx1, hx2⟩ := hx
  obtain ⟨ha1, ha2⟩ := ha
  by_cases h : y - x < -9223372036854775808 ∨ 9223372036854775807 < y - x
  · have S := Lib.hid (fun w => sub_over y x w hy1 hy2 hx1 hx2 h)
    have HR : Hid (mostB y x a = decide (y < x)) := Lib.hid (by unfold mostB; rw [decide_eq_decide]; omega)
    clear h
    go_enter Try.func27, Try.ntmps27
    go_wp2_with (go_at_call 35; (with_reducible refine (S.out _).mono ?_); rintro e w' ⟨rfl, rfl⟩)
    all_goals go_returns
    all_goals exact ⟨ret_bool (by rw [HR.out]), rfl⟩
  · have S := Lib.hid (fun w => sub_ok y x w hy1 hy2 hx1 hx2 (by omega) (by omega))
    have HR : Hid (mostB y x a = decide (y - x ≤ a)) := Lib.hid rfl
    clear h
    go_enter Try.func27, Try.ntmps27
    go_wp2_with (go_at_call 35; (with_reducible refine (S.out _).mono ?_); rintro e w' ⟨rfl, rfl⟩)
    all_goals go_returns
    all_goals exact ⟨ret_bool (by rw [HR.out]), rfl⟩

theorem below_drewN {B : Nat} {a w : World} (h : Below B a w) (n : Nat) : Below B a (w.drewN n) := ⟨h.os, h.tape, h.output, h.size, h.block⟩
/-- Numbers in memory. -/
structure IntsAt (w : World) (tb tq n : Nat) (t : Nat → Int) : Prop where
  cell : ∀ j, j < n → w.cell? ⟨tb, tq + j, none⟩ = some (.int .i64 (t j))
  fit : ∀ j, j < n → I64 (t j)
theorem IntsAt.keep {w w' : World} {tb tq n : Nat} {t : Nat → Int} (h : IntsAt w tb tq n t) (k : Below w.heap.size w w') : IntsAt w' tb tq n t := ⟨fun j hj => cell_keep (h.cell j hj) k, h.fit⟩

def okAt (t : Nat → Int) (M : Mat) (i j : Nat) : Prop := Bd.le (some (t j - t i)) (M i j)

set_option maxRecDepth 100000 in
set_option maxHeartbeats 4000000 in
theorem holds_any (g o n k : Nat) (b p c : Nat → Nat) (M : Mat) (hn : n ≤ 24) (hk : n ≤ k) (hk' : k ≤ 9223372036854775807) (hM : Fits n M) (tb tq tc : Nat) (t : Nat → Int) (htc : n ≤ tc) (htc' : tc ≤ 9223372036854775807) (w : World) (hw : NetAt w g o n b p c M) (ht : IntsAt w tb tq n t)
    (r : Bool) (hr : r = true ↔ Sat n t M) :
    Calls Try.prog 12 #[.slice (some ⟨g, o, none⟩) n k, .slice (some ⟨tb, tq, none⟩) n tc] w fun e w' => e = .returned (.bool r) ∧ Below w.heap.size w w' := by
  have HW := Lib.hid hw
  have HT := Lib.hid ht
  have HR := Lib.hid hr
  have HM := Lib.hid hM
  have R := Lib.hid (right_net g o n k b p c M hn hk hk' hM w hw)
  have t2 : ((n : Int) != (n : Int)) = false := by simp
  clear hw ht hr hM
  go_enter Try.func12, Try.ntmps12
  go_wp2_with (go_at_call 11; (with_reducible refine (R.out).mono ?_); rintro e w1 ⟨rfl, b1⟩; have HB1 := Lib.hid b1; clear b1)
  go_loopw [20] (fun ii wr => ∃ i : Nat, i ≤ n ∧ ii = .int .i64 i ∧ Hid (∀ a d, a < n → d < n → a < i → okAt t M a d) ∧ Hid (Below w.heap.size w wr)) (fun ii _ => n - (intOf ii).toNat)
  case atStart => exact ⟨0, Nat.zero_le _, rfl, Lib.hid (fun a d _ _ h => absurd h (Nat.not_lt_zero _)), HB1⟩
  case round =>
    clear HB1
    obtain ⟨i, hi, rfl, HO, HB⟩ := hrel
    by_cases ilt : i < n
    · go_wp2
      go_loopw [25] (fun jj wr => ∃ j : Nat, j ≤ n ∧ jj = .int .i64 j ∧ Hid (∀ a d, a < n → d < n → a < i ∨ (a = i ∧ d < j) → okAt t M a d) ∧ Hid (Below w.heap.size w wr)) (fun jj _ => n - (intOf jj).toNat)
      case atStart => exact ⟨0, Nat.zero_le _, rfl, Lib.hid (fun a d ha hd h => HO.out a d ha hd (by omega)), HB⟩
      case round =>
        clear HO HB
        obtain ⟨j, hj, rfl, HO, HB⟩ := hrel
        by_cases jlt : j < n
        · have i0 : (0 : Int) ≤ (i : Int) := by omega
          have i1 : (i : Int) < (n : Int) := by omega
          have j0 : (0 : Int) ≤ (j : Int) := by omega
          have j1 : (j : Int) < (n : Int) := by omega
          have HNr := Lib.hid (HW.out.keep HB.out)
          have HTr := Lib.hid (HT.out.keep HB.out)
          have d3 := HNr.out.row i ilt
          have d4 := (HNr.out.cells i ilt).inf j jlt
          have d5 := (HNr.out.cells i ilt).num j jlt
          have s1 := HTr.out.cell i ilt
          have s2 := HTr.out.cell j jlt
          have f1 := HTr.out.fit i ilt
          have f2 := HTr.out.fit j jlt
          have fm := HM.out i j ilt jlt
          have HSTEP := Lib.hid (fun (hok : okAt t M i j) => show ∀ a d, a < n → d < n → a < i ∨ (a = i ∧ d < j + 1) → okAt t M a d from fun a d ha hd h => by
            by_cases z : a = i ∧ d = j
            · obtain ⟨rfl, rfl⟩ := z; exact hok
            · exact HO.out a d ha hd (by omega))
          cases hx : M i j with
          | none =>
            rw [hx] at d4 d5
            simp only [infOf, numOf] at d4 d5
            have HN2 := Lib.hid (HSTEP.out (by unfold okAt; rw [hx]; trivial))
            generalize b i = bi at *
            generalize p i = pi at *
            generalize c i = ci at *
            generalize t i = ti at *
            generalize t j = tj at *
            clear HSTEP hx fm f1 f2
            go_wp2
            go_quiet (fail)
            go_wp2
            go_roundw
            case rel => exact ⟨j + 1, by omega, by go_num, HN2, Lib.hid (below_drewN (HB.out.alloc HB.out.size _) _)⟩
            case measure => simp [intOf]; omega
          | some a =>
            rw [hx] at d4 d5 fm
            simp only [infOf, numOf] at d4 d5
            simp only [Bd.within] at fm
            have A := fun w => atMost_any (t j) (t i) a f2 f1 ⟨by omega, by omega⟩ w
            have HOK : Hid (okAt t M i j ↔ mostB (t j) (t i) a = true) := Lib.hid (by unfold okAt mostB; rw [hx]; simp only [Bd.le, decide_eq_true_eq])
            cases hq : mostB (t j) (t i) a
            · rw [hq] at A
              have A2 := Lib.hid A
              have HF : Hid (false = r) := Lib.hid (by
                cases r
                · rfl
                · exact absurd (HOK.out.1 (HR.out.1 rfl i j ilt jlt)) (by rw [hq]; decide))
              generalize b i = bi at *
              generalize p i = pi at *
              generalize c i = ci at *
              generalize t i = ti at *
              generalize t j = tj at *
              clear A HSTEP hx fm f1 f2 hq HOK
              have s3 := cell_keep s1 ((Below.refl _ wr).alloc (Nat.le_refl _) (.cells #[.int .i8 0, .int .i64 a] 26))
              have s4 := cell_keep s2 ((Below.refl _ wr).alloc (Nat.le_refl _) (.cells #[.int .i8 0, .int .i64 a] 26))
              go_wp2
              go_quiet ((go_at_call 27; exact Calls.quiet_of_same (A2.out _)))
              go_wp2
              go_returns
              exact ⟨ret_bool HF.out, below_drewN (HB.out.alloc HB.out.size _) _⟩
            · rw [hq] at A
              have A2 := Lib.hid A
              have HN2 := Lib.hid (HSTEP.out (HOK.out.2 hq))
              generalize b i = bi at *
              generalize p i = pi at *
              generalize c i = ci at *
              generalize t i = ti at *
              generalize t j = tj at *
              clear A HSTEP hx fm f1 f2 hq HOK
              have s3 := cell_keep s1 ((Below.refl _ wr).alloc (Nat.le_refl _) (.cells #[.int .i8 0, .int .i64 a] 26))
              have s4 := cell_keep s2 ((Below.refl _ wr).alloc (Nat.le_refl _) (.cells #[.int .i8 0, .int .i64 a] 26))
              go_wp2
              go_quiet ((go_at_call 27; exact Calls.quiet_of_same (A2.out _)))
              go_wp2
              go_roundw
              case rel => exact ⟨j + 1, by omega, by go_num, HN2, Lib.hid (below_drewN (HB.out.alloc HB.out.size _) _)⟩
              case measure => simp [intOf]; omega
        · have HE := Lib.hid (show ∀ a d, a < n → d < n → a < i + 1 → okAt t M a d from fun a d ha hd h => HO.out a d ha hd (by omega))
          go_wp2
          go_roundw
          case rel => exact ⟨i + 1, by omega, by go_num, HE, HB⟩
          case measure => simp [intOf]; omega
    · have HF : Hid (true = r) := Lib.hid (HR.out.2 (fun a d ha hd => HO.out a d ha hd (by omega))).symm
      go_wp2
      go_returns
      exact ⟨ret_bool HF.out, HB.out⟩

/-- square, of a network that is one. -/
theorem square_net (g o n k : Nat) (b p c : Nat → Nat) (M : Mat) (hn : n ≤ 24) (hk : n ≤ k) (hk' : k ≤ 9223372036854775807) (w : World) (hw : NetAt w g o n b p c M) :
    Calls Try.prog 21 #[.slice (some ⟨g, o, none⟩) n k, .int .i64 n] w fun e w' => e = .returned (.bool true) ∧ w = w' := by
  have HW := Lib.hid hw
  have t2 : ((n : Int) != (n : Int)) = false := by simp
  have t3 : ((n : Int) == (n : Int)) = true := by simp
  clear hw
  go_enter Try.func21, Try.ntmps21
  go_wp2
  go_loop [9] (fun ii => ∃ i : Nat, i ≤ n ∧ ii = .int .i64 i) (fun ii => n - (intOf ii).toNat)
  case atStart => exact ⟨0, Nat.zero_le _, rfl⟩
  case round =>
    obtain ⟨i, hi, rfl⟩ := hrel
    by_cases ilt : i < n
    · have i0 : (0 : Int) ≤ (i : Int) := by omega
      have i1 : (i : Int) < (n : Int) := by omega
      have d3 := HW.out.row i ilt
      generalize b i = bi at *
      generalize p i = pi at *
      generalize c i = ci at *
      go_wp2
      go_round
      case rel => exact ⟨i + 1, by omega, by go_num⟩
      case measure => simp [intOf]; omega
    · have hin : i = n := by omega
      clear hin
      go_wp2
      go_returns
      exact ⟨rfl, rfl⟩
end Go.Proofs.Ytnhbinghinlhgaa
