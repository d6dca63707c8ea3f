/- Contracts over networks that came in as they are: the document's Right; the argument opened. -/
import Derived.Test.YtnhbinghinlhgaaT1
import Derived.Test.YtnhbinghinlhgaaOpenT
namespace Go.Proofs.Ytnhbinghinlhgaa
set_option linter.unusedVariables false
set_option linter.unusedSimpArgs false
open Go.ChangeShapes Go.WideShapes Go.ChangeAt Go.RowKit

set_option maxHeartbeats 2000000 in
theorem rright_raw (ao : Option Addr) (N k : Nat) (ra : Nat → Option Addr) (L c : Nat → Nat) (X Y : Nat → Nat → Int) (w : World) (hw : RawNet w ao N k ra L c X Y) (r : Bool) (hr : r = true ↔ RightIs N L X Y) :
    Calls Try.prog 10 #[.slice ao N k] w fun e w' => e = .returned (.bool r) ∧ Below w.heap.size w w' := by
  have HW := Lib.hid hw
  have HR := Lib.hid hr
  clear hw hr
  by_cases h24 : N ≤ 24
  · have t1 : ¬ (24 : Int) < (N : Int) := by omega
    go_enter Try.func10, Try.ntmps10
    go_wp2
    go_loopw [3] (fun i wr => ∃ k : Nat, k ≤ N ∧ i = .int .i64 k ∧ Hid (∀ i, i < k → L i = N ∧ ∀ j, j < N → allowedB (X i j) (Y i j) = true) ∧ Hid (Below w.heap.size w wr)) (fun i _ => N - (intOf i).toNat)
    case atStart => exact ⟨0, Nat.zero_le _, rfl, Lib.hid (fun j h => absurd h (Nat.not_lt_zero _)), Lib.hid (Below.refl _ _)⟩
    case round =>
      obtain ⟨i, hi, rfl, HK, HB⟩ := hrel
      by_cases hlt : i < N
      · have HN := Lib.hid (HW.out.keep HB.out)
        obtain ⟨g, o, rfl, hrow⟩ := HN.out.rows (by omega)
        have c1 := hrow i hlt
        have i0 : (0 : Int) ≤ (i : Int) := by omega
        have i1 : (i : Int) < (N : Int) := by omega
        by_cases hL : L i = N
        · obtain ⟨b, p, hra, hcells⟩ := HN.out.cells i hlt (by omega)
          rw [hra, hL] at c1
          rw [hL] at hcells
          have HC := Lib.hid hcells
          have HRW := Lib.hid c1
          have t2 : ((N : Int) != (N : Int)) = false := by simp
          clear hcells hra hrow HN
          generalize hci : c i = ci at *
          clear hci
          go_wp2
          go_loopw [4] (fun jj ws => ∃ j : Nat, j ≤ N ∧ jj = .int .i64 j ∧ Hid (∀ a, a < j → allowedB (X i a) (Y i a) = true) ∧ Hid (Below wr.heap.size wr ws)) (fun jj _ => N - (intOf jj).toNat)
          case atStart => exact ⟨0, Nat.zero_le _, rfl, Lib.hid (fun j h => absurd h (Nat.not_lt_zero _)), Lib.hid (Below.refl _ _)⟩
          case round =>
            obtain ⟨j, hj, rfl, HJ, HS⟩ := hrel
            clear c1
            by_cases jlt : j < N
            · have j0 : (0 : Int) ≤ (j : Int) := by omega
              have j1 : (j : Int) < (N : Int) := by omega
              have c1 := cell_keep HRW.out HS.out
              have c2 := (HC.out.keep HS.out).inf j jlt
              have c3 := (HC.out.keep HS.out).num j jlt
              obtain ⟨x, hx⟩ : ∃ x, X i j = x := ⟨_, rfl⟩
              obtain ⟨y, hy⟩ : ∃ y, Y i j = y := ⟨_, rfl⟩
              rw [hx] at c2
              rw [hy] at c3
              have HX := Lib.hid hx
              have HY := Lib.hid hy
              clear hx hy
              cases ha : allowedB x y
              · have HF : Hid (false = r) := Lib.hid (by
                  cases r
                  · rfl
                  · have := ((HR.out.1 rfl).2 i hlt).2 j jlt
                    rw [HX.out, HY.out, ha] at this
                    cases this)
                have A : Hid (∀ w, Calls Try.prog 15 #[.agg #[.int .i8 x, .int .i64 y]] w fun e w' => e = .returned (.bool false) ∧ Below w.heap.size w w') := Lib.hid (fun w => ha ▸ may_any x y w)
                clear ha hL
                go_wp2_with (go_at_call 15; (with_reducible refine (A.out _).mono ?_); rintro e w1 ⟨rfl, b1⟩; have HB1 := Lib.hid (HS.out.trans (b1.mono HS.out.size)); clear b1)
                go_returns
                exact ⟨ret_bool HF.out, HB.out.trans (HB1.out.mono HB.out.size)⟩
              · have HJ2 := Lib.hid (show ∀ a, a < j + 1 → allowedB (X i a) (Y i a) = true from fun a l => by
                  by_cases q : a = j
                  · subst q; rw [HX.out, HY.out]; exact ha
                  · exact HJ.out a (by omega))
                have A : Hid (∀ w, Calls Try.prog 15 #[.agg #[.int .i8 x, .int .i64 y]] w fun e w' => e = .returned (.bool true) ∧ Below w.heap.size w w') := Lib.hid (fun w => ha ▸ may_any x y w)
                clear ha hL
                go_wp2_with (go_at_call 15; (with_reducible refine (A.out _).mono ?_); rintro e w1 ⟨rfl, b1⟩; have HB1 := Lib.hid (HS.out.trans (b1.mono HS.out.size)); clear b1)
                go_roundw
                case rel => exact ⟨j + 1, by omega, by go_num, HJ2, HB1⟩
                case measure => simp [intOf]; omega
            · have HK2 := Lib.hid (show ∀ a, a < i + 1 → L a = N ∧ ∀ j, j < N → allowedB (X a j) (Y a j) = true from fun a ha => by
                by_cases q : a = i
                · subst q
                  exact ⟨hL, fun b hb => HJ.out b (by omega)⟩
                · exact HK.out a (by omega))
              clear hL
              go_wp2
              go_roundw
              case rel => exact ⟨i + 1, by omega, by go_num, HK2, Lib.hid (HB.out.trans (HS.out.mono HB.out.size))⟩
              case measure => simp [intOf]; omega
        · have t2 : ((L i : Int) != (N : Int)) = true := by simp; omega
          have HF : Hid (false = r) := Lib.hid (by
            cases r
            · rfl
            · exact absurd ((HR.out.1 rfl).2 i hlt).1 hL)
          clear hL HK hrow HN
          generalize c i = ci at *
          generalize L i = li at *
          generalize ra i = ri at *
          go_wp2
          go_returns
          exact ⟨ret_bool HF.out, HB.out⟩
      · have HF : Hid (true = r) := Lib.hid (by
          cases r
          · exact (HR.out.2 ⟨h24, fun a ha => HK.out a (by omega)⟩).symm
          · rfl)
        go_wp2
        go_returns
        exact ⟨ret_bool HF.out, HB.out⟩
  · have t1 : (24 : Int) < (N : Int) := by omega
    have HF : Hid (false = r) := Lib.hid (by
      cases r
      · rfl
      · exact absurd (HR.out.1 rfl).1 h24)
    go_enter Try.func10, Try.ntmps10
    go_wp2
    go_returns
    exact ⟨ret_bool HF.out, by go_grown⟩
end Go.Proofs.Ytnhbinghinlhgaa
