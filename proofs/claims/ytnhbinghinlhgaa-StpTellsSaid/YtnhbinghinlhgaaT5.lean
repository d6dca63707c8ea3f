/- Contracts: the document's Holds of a right network. -/
import Derived.Test.YtnhbinghinlhgaaT4
namespace Go.Proofs.Ytnhbinghinlhgaa
set_option linter.unusedVariables false
set_option linter.unusedSimpArgs false
open Go.ChangeShapes Go.WideShapes Go.ChangeAt Go.RowKit
set_option maxRecDepth 100000 in
set_option maxHeartbeats 4000000 in
theorem rholds_net (g o n k : Nat) (b p c : Nat → Nat) (M : Mat) (h0 : 0 < n) (hn : n ≤ 24) (hk : n ≤ k) (hk' : k ≤ 9223372036854775807) (hM : Fits n M) (tb tq tc : Nat) (t : Nat → Int) (htc : n ≤ tc) (htc' : tc ≤ 9223372036854775807) (w : World) (hw : NetAt w g o n b p c M) (ht : IntsAt w tb tq n t)
    (r : Bool) (hr : r = true ↔ Sat n t M) :
    Calls Try.prog 13 #[.slice (some ⟨g, o, none⟩) n k, .slice (some ⟨tb, tq, none⟩) n tc] w fun e w' => e = .returned (.bool r) ∧ Below w.heap.size w w' := by
  have HW := Lib.hid hw
  have HT := Lib.hid ht
  have HR := Lib.hid hr
  have HM := Lib.hid hM
  have R := Lib.hid (rright_raw _ n k _ _ _ _ _ w (net_raw hw hk hk') true ⟨fun _ => net_right hn hM, fun _ => rfl⟩)
  have t2 : ((n : Int) != (n : Int)) = false := by simp
  clear hw ht hr hM
  go_enter Try.func13, Try.ntmps13
  go_wp2_with (go_at_call 10; (with_reducible refine (R.out).mono ?_); rintro e w1 ⟨rfl, b1⟩; have HB1 := Lib.hid b1; clear b1)
  clear R
  go_loopw [5] (fun ii wr => ∃ i : Nat, i ≤ n ∧ ii = .int .i64 i ∧ Hid (∀ a d, a < n → d < n → a < i → okAt t M a d) ∧ Hid (Below w.heap.size w wr)) (fun ii _ => n - (intOf ii).toNat)
  case atStart => exact ⟨0, Nat.zero_le _, rfl, Lib.hid (fun a d _ _ h => absurd h (Nat.not_lt_zero _)), HB1⟩
  case round =>
    clear HB1
    obtain ⟨i, hi, rfl, HO, HB⟩ := hrel
    by_cases ilt : i < n
    · have i0 : (0 : Int) ≤ (i : Int) := by omega
      have i1 : (i : Int) < (n : Int) := by omega
      go_wp2
      go_loopw [6] (fun jj wr => ∃ j : Nat, j ≤ n ∧ jj = .int .i64 j ∧ Hid (∀ d, d < j → okAt t M i d) ∧ Hid (Below w.heap.size w wr)) (fun jj _ => n - (intOf jj).toNat)
      case atStart => exact ⟨0, Nat.zero_le _, rfl, Lib.hid (fun d h => absurd h (Nat.not_lt_zero _)), HB⟩
      case round =>
        clear HB
        obtain ⟨j, hj, rfl, HJ, HB⟩ := hrel
        by_cases jlt : j < n
        · have j0 : (0 : Int) ≤ (j : Int) := by omega
          have j1 : (j : Int) < (n : Int) := by omega
          have W := Lib.hid (HW.out.keep HB.out)
          have WT := Lib.hid (HT.out.keep HB.out)
          have z1 := W.out.row i ilt
          have z2 := (W.out.cells i ilt).inf j jlt
          have z3 := (W.out.cells i ilt).num j jlt
          have HA := Lib.hid (HB.out.alloc HB.out.size (.cells #[.int .i8 (infOf (M i j)), .int .i64 (numOf (M i j))] 26))
          have KA := (Below.refl _ wr).alloc (Nat.le_refl _) (.cells #[.int .i8 (infOf (M i j)), .int .i64 (numOf (M i j))] 26)
          have y1 := cell_keep (WT.out.cell i ilt) KA
          have y2 := cell_keep (WT.out.cell j jlt) KA
          obtain ⟨fi1, fi2⟩ := WT.out.fit i ilt
          obtain ⟨fj1, fj2⟩ := WT.out.fit j jlt
          have HNX : Hid (okAt t M i j → ∀ d, d < j + 1 → okAt t M i d) := Lib.hid (fun q d hd => by
            by_cases z : d = j
            · subst z; exact q
            · exact HJ.out d (by omega))
          have HBAD : Hid (¬ okAt t M i j → false = r) := Lib.hid (fun q => by
            cases r
            · rfl
            · exact absurd (HR.out.1 rfl i j ilt jlt) q)
          clear KA W WT
          generalize b i = bi at *
          generalize p i = pi at *
          generalize c i = ci at *
          cases hm : M i j with
          | none =>
            have HOK := Lib.hid (HNX.out (by unfold okAt; rw [hm]; simp [Bd.le]))
            rw [hm] at z2 z3 HA
            simp only [infOf, numOf] at z2 z3 HA
            clear hm y1 y2 HNX HBAD fi1 fi2 fj1 fj2
            go_wp2
            go_roundw
            case rel => exact ⟨j + 1, by omega, by go_num, HOK, HA⟩
            case measure => simp [intOf]; omega
          | some a =>
            have HF := HM.out i j ilt jlt
            rw [hm] at z2 z3 HA y1 y2 HF
            simp only [infOf, numOf] at z2 z3 HA y1 y2
            obtain ⟨a1, a2⟩ : -1125899906842624 ≤ a ∧ a ≤ 1125899906842624 := HF
            have HQ : Hid (okAt t M i j ↔ t j - t i ≤ a) := Lib.hid (by unfold okAt; rw [hm]; exact Iff.rfl)
            obtain ⟨x, hx⟩ : ∃ x, t i = x := ⟨_, rfl⟩
            obtain ⟨y, hy⟩ : ∃ y, t j = y := ⟨_, rfl⟩
            rw [hx] at y1 fi1 fi2 HQ
            rw [hy] at y2 fj1 fj2 HQ
            have HOK : Hid (y - x ≤ a → ∀ d, d < j + 1 → okAt t M i d) := Lib.hid (fun q => HNX.out (HQ.out.2 q))
            have HNO : Hid (¬ y - x ≤ a → false = r) := Lib.hid (fun q => HBAD.out (fun z => q (HQ.out.1 z)))
            clear hm HNX HBAD HQ hx hy
            by_cases hx0 : x < 0
            · by_cases hy0 : 0 ≤ y
              · by_cases h1 : 9223372036854775807 + x < y
                · have HG := Lib.hid (HNO.out (by omega))
                  clear HNO HOK
                  go_upto_region 11 with fail
                  go_region
                  go_wp2
                  go_returns
                  exact ⟨ret_bool HG.out, HA.out.drew⟩
                · have h2 : (x == -9223372036854775808) = false := by simp; omega
                  have u1 : -9223372036854775808 ≤ y - x := by omega
                  have u2 : y - x ≤ 9223372036854775807 := by omega
                  by_cases h : a < y - x
                  · have HG := Lib.hid (HNO.out (by omega))
                    clear HNO HOK
                    go_upto_region 11 with fail
                    go_region
                    go_wp2
                    go_returns
                    exact ⟨ret_bool HG.out, HA.out.drew⟩
                  · have HG := Lib.hid (HOK.out (by omega))
                    clear HNO HOK
                    go_upto_region 11 with fail
                    go_region
                    go_wp2
                    go_roundw
                    case rel => exact ⟨j + 1, by omega, by go_num, HG, Lib.hid HA.out.drew⟩
                    case measure => simp [intOf]; omega
              · have h3 : ¬ (0 ≤ x) := by omega
                have u1 : -9223372036854775808 ≤ y - x := by omega
                have u2 : y - x ≤ 9223372036854775807 := by omega
                by_cases h : a < y - x
                · have HG := Lib.hid (HNO.out (by omega))
                  clear HNO HOK
                  go_upto_region 11 with fail
                  go_region
                  go_wp2
                  go_returns
                  exact ⟨ret_bool HG.out, HA.out.drew⟩
                · have HG := Lib.hid (HOK.out (by omega))
                  clear HNO HOK
                  go_upto_region 11 with fail
                  go_region
                  go_wp2
                  go_roundw
                  case rel => exact ⟨j + 1, by omega, by go_num, HG, Lib.hid HA.out.drew⟩
                  case measure => simp [intOf]; omega
            · have h3 : 0 ≤ x := by omega
              by_cases hy0 : y < 0
              · by_cases h1 : y < -9223372036854775808 + x
                · have HG := Lib.hid (HOK.out (by omega))
                  clear HNO HOK
                  go_upto_region 11 with fail
                  go_region
                  go_wp2
                  go_roundw
                  case rel => exact ⟨j + 1, by omega, by go_num, HG, Lib.hid HA.out.drew⟩
                  case measure => simp [intOf]; omega
                · skip
                  have u1 : -9223372036854775808 ≤ y - x := by omega
                  have u2 : y - x ≤ 9223372036854775807 := by omega
                  by_cases h : a < y - x
                  · have HG := Lib.hid (HNO.out (by omega))
                    clear HNO HOK
                    go_upto_region 11 with fail
                    go_region
                    go_wp2
                    go_returns
                    exact ⟨ret_bool HG.out, HA.out.drew⟩
                  · have HG := Lib.hid (HOK.out (by omega))
                    clear HNO HOK
                    go_upto_region 11 with fail
                    go_region
                    go_wp2
                    go_roundw
                    case rel => exact ⟨j + 1, by omega, by go_num, HG, Lib.hid HA.out.drew⟩
                    case measure => simp [intOf]; omega
              · skip
                have u1 : -9223372036854775808 ≤ y - x := by omega
                have u2 : y - x ≤ 9223372036854775807 := by omega
                by_cases h : a < y - x
                · have HG := Lib.hid (HNO.out (by omega))
                  clear HNO HOK
                  go_upto_region 11 with fail
                  go_region
                  go_wp2
                  go_returns
                  exact ⟨ret_bool HG.out, HA.out.drew⟩
                · have HG := Lib.hid (HOK.out (by omega))
                  clear HNO HOK
                  go_upto_region 11 with fail
                  go_region
                  go_wp2
                  go_roundw
                  case rel => exact ⟨j + 1, by omega, by go_num, HG, Lib.hid HA.out.drew⟩
                  case measure => simp [intOf]; omega
        · have HO2 := Lib.hid (show ∀ a d, a < n → d < n → a < i + 1 → okAt t M a d from fun a d ha hd hl => by
            by_cases z : a = i
            · subst z; exact HJ.out d (by omega)
            · exact HO.out a d ha hd (by omega))
          go_wp2
          go_roundw
          case rel => exact ⟨i + 1, by omega, by go_num, HO2, HB⟩
          case measure => simp [intOf]; omega
    · have HF : Hid (true = r) := Lib.hid (by
        cases r
        · exact (HR.out.2 (fun a d ha hd => HO.out a d ha hd (by omega))).symm
        · rfl)
      go_wp2
      go_returns
      exact ⟨ret_bool HF.out, HB.out⟩
end Go.Proofs.Ytnhbinghinlhgaa
