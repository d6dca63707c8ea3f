/- Contracts: the law's own look at Set. -/
import Derived.Test.YtnhbinghinlhgaaT7
namespace Go.Proofs.Ytnhbinghinlhgaa
set_option linter.unusedVariables false
set_option linter.unusedSimpArgs false
open Go.ChangeShapes Go.WideShapes Go.ChangeAt Go.RowKit
set_option maxRecDepth 100000 in
set_option maxHeartbeats 8000000 in
theorem set_told (g o n k : Nat) (b p c : Nat → Nat) (M : Mat) (g' o' k' : Nat) (b' p' c' : Nat → Nat) (I J : Nat) (v : Bd) (hn : n ≤ 24) (hk : n ≤ k) (hk' : n ≤ k') (w : World) (hw : NetAt w g o n b p c M) (hw' : NetAt w g' o' n b' p' c' (put M I J v)) :
    Calls Try.prog 16 #[.slice (some ⟨g, o, none⟩) n k, .slice (some ⟨g', o', none⟩) n k', .agg #[.int .i64 I, .int .i64 J, .int .i8 (infOf v), .int .i64 (numOf v)]] w fun e w' => e = .returned (.bool true) ∧ Below w.heap.size w w' := by
  have HW := Lib.hid hw
  have HN := Lib.hid hw'
  obtain ⟨x, hx⟩ : ∃ x, infOf v = x := ⟨_, rfl⟩
  obtain ⟨y, hy⟩ : ∃ y, numOf v = y := ⟨_, rfl⟩
  rw [hx, hy]
  have HX := Lib.hid hx
  have HY := Lib.hid hy
  have t2 : ((n : Int) != (n : Int)) = false := by simp
  clear hw hw' hx hy
  have BF := box_four w (.int .i64 I) (.int .i64 J) (.int .i8 x) (.int .i64 y) 28
  have HB1 := Lib.hid ((Below.refl _ w).alloc (Nat.le_refl _) (.cells #[.int .i64 I, .int .i64 J, .int .i8 x, .int .i64 y] 28))
  have HF1 := Lib.hid BF
  clear BF
  go_enter Try.func16, Try.ntmps16
  go_wp2
  obtain ⟨xb, hxb⟩ : ∃ q, w.heap.size = q := ⟨_, rfl⟩
  rw [hxb] at HF1 ⊢
  have HXB := Lib.hid hxb
  clear hxb
  generalize (w.alloc (.cells #[.int .i64 I, .int .i64 J, .int .i8 x, .int .i64 y] 28)) = w1 at *
  go_loopw [17] (fun ii wr => ∃ i : Nat, i ≤ n ∧ ii = .int .i64 i ∧ Hid (Below w.heap.size w wr) ∧ Hid (Four wr xb (.int .i64 I) (.int .i64 J) (.int .i8 x) (.int .i64 y))) (fun ii _ => n - (intOf ii).toNat)
  case atStart => exact ⟨0, Nat.zero_le _, rfl, HB1, HF1⟩
  case round =>
    clear HB1 HF1
    obtain ⟨i, hi, rfl, HB, HF⟩ := hrel
    by_cases ilt : i < n
    · have i0 : (0 : Int) ≤ (i : Int) := by omega
      have i1 : (i : Int) < (n : Int) := by omega
      have m1 := (HN.out.keep HB.out).row i ilt
      generalize hb' : b' i = bi' at *
      generalize hp' : p' i = pi' at *
      generalize hc' : c' i = ci' at *
      go_wp2
      go_loopw [30] (fun jj wr => ∃ j : Nat, j ≤ n ∧ jj = .int .i64 j ∧ Hid (Below w.heap.size w wr) ∧ Hid (Four wr xb (.int .i64 I) (.int .i64 J) (.int .i8 x) (.int .i64 y))) (fun jj _ => n - (intOf jj).toNat)
      case atStart => exact ⟨0, Nat.zero_le _, rfl, HB, HF⟩
      case round =>
        clear HB HF m1
        obtain ⟨j, hj, rfl, HB, HF⟩ := hrel
        by_cases jlt : j < n
        · have j0 : (0 : Int) ≤ (j : Int) := by omega
          have j1 : (j : Int) < (n : Int) := by omega
          have z1 := (HW.out.keep HB.out).row i ilt
          have z2 := ((HW.out.keep HB.out).cells i ilt).inf j jlt
          have z3 := ((HW.out.keep HB.out).cells i ilt).num j jlt
          have HU := Lib.hid ((HN.out.keep HB.out).row i ilt)
          have HV2 := Lib.hid (((HN.out.keep HB.out).cells i ilt).inf j jlt)
          have HV3 := Lib.hid (((HN.out.keep HB.out).cells i ilt).num j jlt)
          rw [hb', hp', hc'] at HU
          rw [hb', hp'] at HV2 HV3
          skip
          generalize b i = bi at *
          generalize p i = pi at *
          generalize c i = ci at *
          obtain ⟨P, hP⟩ : ∃ q, infOf (M i j) = q := ⟨_, rfl⟩
          obtain ⟨Q, hQ⟩ : ∃ q, numOf (M i j) = q := ⟨_, rfl⟩
          rw [hP] at z2
          rw [hQ] at z3
          have KA := Lib.hid (fun (u z : Value) => (Below.refl _ wr).alloc (Nat.le_refl _) (.cells #[u, z] 26))
          have HA := Lib.hid (fun (u z : Value) => HB.out.alloc HB.out.size (.cells #[u, z] 26))
          cases hI : ((i : Int) == (I : Int))
          · have eN : put M I J v i j = M i j := if_neg (fun z => by have := beq_eq_false_iff_ne.1 hI; exact this (by rw [z.1]))
            have v2 := HV2.out
            have v3 := HV3.out
            rw [eN, hP] at v2; rw [eN, hQ] at v3
            have y1 := cell_keep HU.out (KA.out (.int .i8 P) (.int .i64 Q))
            have y2 := cell_keep v2 (KA.out (.int .i8 P) (.int .i64 Q))
            have y3 := cell_keep v3 (KA.out (.int .i8 P) (.int .i64 Q))
            obtain ⟨r0, r1, r2, r3⟩ := HF.out.keep (KA.out (.int .i8 P) (.int .i64 Q))
            have HG := Lib.hid (HA.out (.int .i8 P) (.int .i64 Q)).drew
            have HF2 := Lib.hid (HF.out.keep (KA.out (.int .i8 P) (.int .i64 Q)).drew)
            clear v2 v3 HU HV2 HV3 KA HA HF HB
            go_wp2
            go_region
            go_wp2
            go_roundw
            case rel => exact ⟨j + 1, by omega, by go_num, HG, HF2⟩
            case measure => simp [intOf]; omega
          · cases hJ : ((j : Int) == (J : Int))
            · have eN : put M I J v i j = M i j := if_neg (fun z => by have := beq_eq_false_iff_ne.1 hJ; exact this (by rw [z.2]))
              have v2 := HV2.out
              have v3 := HV3.out
              rw [eN, hP] at v2; rw [eN, hQ] at v3
              have y1 := cell_keep HU.out (KA.out (.int .i8 P) (.int .i64 Q))
              have y2 := cell_keep v2 (KA.out (.int .i8 P) (.int .i64 Q))
              have y3 := cell_keep v3 (KA.out (.int .i8 P) (.int .i64 Q))
              obtain ⟨r0, r1, r2, r3⟩ := HF.out.keep (KA.out (.int .i8 P) (.int .i64 Q))
              have HG := Lib.hid (HA.out (.int .i8 P) (.int .i64 Q)).drew
              have HF2 := Lib.hid (HF.out.keep (KA.out (.int .i8 P) (.int .i64 Q)).drew)
              clear v2 v3 HU HV2 HV3 KA HA HF HB
              go_wp2
              go_region
              go_wp2
              go_roundw
              case rel => exact ⟨j + 1, by omega, by go_num, HG, HF2⟩
              case measure => simp [intOf]; omega
            · have e1 : i = I := by have := eq_of_beq hI; omega
              have e2 : j = J := by have := eq_of_beq hJ; omega
              have eL : put M I J v i j = Bd.low (M i j) v := by
                rw [show put M I J v i j = Bd.low (M I J) v from if_pos ⟨e1, e2⟩, e1, e2]
              clear e1 e2
              cases hv : v with
              | none =>
                have eN : put M I J v i j = M i j := by rw [eL, hv]; cases M i j <;> rfl
                obtain rfl : (1 : Int) = x := by rw [← HX.out, hv]; rfl
                rw [hv] at eN HV2 HV3
                have v2 := HV2.out
                have v3 := HV3.out
                rw [eN, hP] at v2; rw [eN, hQ] at v3
                have y1 := cell_keep HU.out (KA.out (.int .i8 P) (.int .i64 Q))
                have y2 := cell_keep v2 (KA.out (.int .i8 P) (.int .i64 Q))
                have y3 := cell_keep v3 (KA.out (.int .i8 P) (.int .i64 Q))
                obtain ⟨r0, r1, r2, r3⟩ := HF.out.keep (KA.out (.int .i8 P) (.int .i64 Q))
                have HG := Lib.hid (HA.out (.int .i8 P) (.int .i64 Q)).drew
                have HF2 := Lib.hid (HF.out.keep (KA.out (.int .i8 P) (.int .i64 Q)).drew)
                clear v2 v3 HU HV2 HV3 KA HA HF HB
                go_wp2
                go_region
                go_wp2
                go_roundw
                case rel => exact ⟨j + 1, by omega, by go_num, HG, HF2⟩
                case measure => simp [intOf]; omega
              | some s =>
                obtain rfl : (0 : Int) = x := by rw [← HX.out, hv]; rfl
                obtain rfl : s = y := by rw [← HY.out, hv]; rfl
                cases hm : M i j with
                | none =>
                  have eN : put M I J v i j = v := by rw [eL, hv, hm]; rfl
                  obtain rfl : (1 : Int) = P := by rw [← hP, hm]; rfl
                  have v2 := HV2.out
                  have v3 := HV3.out
                  rw [eN, HX.out] at v2; rw [eN, HY.out] at v3
                  have y1 := cell_keep HU.out (KA.out (.int .i8 0) (.int .i64 s))
                  have y2 := cell_keep v2 (KA.out (.int .i8 0) (.int .i64 s))
                  have y3 := cell_keep v3 (KA.out (.int .i8 0) (.int .i64 s))
                  obtain ⟨r0, r1, r2, r3⟩ := HF.out.keep (KA.out (.int .i8 1) (.int .i64 Q))
                  have HG := Lib.hid (HA.out (.int .i8 0) (.int .i64 s)).drew
                  have HF2 := Lib.hid (HF.out.keep (KA.out (.int .i8 0) (.int .i64 s)).drew)
                  clear v2 v3 HU HV2 HV3 KA HA HF HB
                  go_wp2
                  go_region
                  go_wp2
                  go_roundw
                  case rel => exact ⟨j + 1, by omega, by go_num, HG, HF2⟩
                  case measure => simp [intOf]; omega
                | some a =>
                  obtain rfl : (0 : Int) = P := by rw [← hP, hm]; rfl
                  obtain rfl : a = Q := by rw [← hQ, hm]; rfl
                  by_cases hs : s < a
                  · have eN : put M I J v i j = v := by rw [eL, hv, hm]; simp [Bd.low, Bd.lt, hs]
                    have v2 := HV2.out
                    have v3 := HV3.out
                    rw [eN, HX.out] at v2; rw [eN, HY.out] at v3
                    have y1 := cell_keep HU.out (KA.out (.int .i8 0) (.int .i64 s))
                    have y2 := cell_keep v2 (KA.out (.int .i8 0) (.int .i64 s))
                    have y3 := cell_keep v3 (KA.out (.int .i8 0) (.int .i64 s))
                    obtain ⟨r0, r1, r2, r3⟩ := HF.out.keep (KA.out (.int .i8 0) (.int .i64 a))
                    have HG := Lib.hid (HA.out (.int .i8 0) (.int .i64 s)).drew
                    have HF2 := Lib.hid (HF.out.keep (KA.out (.int .i8 0) (.int .i64 s)).drew)
                    clear v2 v3 HU HV2 HV3 KA HA HF HB
                    go_wp2
                    go_region
                    go_wp2
                    go_roundw
                    case rel => exact ⟨j + 1, by omega, by go_num, HG, HF2⟩
                    case measure => simp [intOf]; omega
                  · have eN : put M I J v i j = M i j := by rw [eL, hv, hm]; simp [Bd.low, Bd.lt, hs]
                    have v2 := HV2.out
                    have v3 := HV3.out
                    rw [eN, hP] at v2; rw [eN, hQ] at v3
                    have y1 := cell_keep HU.out (KA.out (.int .i8 0) (.int .i64 a))
                    have y2 := cell_keep v2 (KA.out (.int .i8 0) (.int .i64 a))
                    have y3 := cell_keep v3 (KA.out (.int .i8 0) (.int .i64 a))
                    obtain ⟨r0, r1, r2, r3⟩ := HF.out.keep (KA.out (.int .i8 0) (.int .i64 a))
                    have HG := Lib.hid (HA.out (.int .i8 0) (.int .i64 a)).drew
                    have HF2 := Lib.hid (HF.out.keep (KA.out (.int .i8 0) (.int .i64 a)).drew)
                    clear v2 v3 HU HV2 HV3 KA HA HF HB
                    go_wp2
                    go_region
                    go_wp2
                    go_roundw
                    case rel => exact ⟨j + 1, by omega, by go_num, HG, HF2⟩
                    case measure => simp [intOf]; omega
        · go_wp2
          go_roundw
          case rel => exact ⟨i + 1, by omega, by go_num, HB, HF⟩
          case measure => simp [intOf]; omega
    · go_wp2
      go_returns
      exact ⟨rfl, HB.out⟩
end Go.Proofs.Ytnhbinghinlhgaa
