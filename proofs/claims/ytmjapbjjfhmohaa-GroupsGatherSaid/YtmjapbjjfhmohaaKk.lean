/- G18, G19, G20, K1, K2, K3, S1, S2, S3, R1 in one. -/
import Derived.Test.YtmjapbjjfhmohaaKi
import Derived.Test.YtmjapbjjfhmohaaKj
import Derived.Test.YtmjapbjjfhmohaaKc
namespace Go.Proofs.Ytmjapbjjfhmohaa
set_option linter.unusedVariables false
set_option linter.unusedSimpArgs false
open Go.ChangeShapes Go.WideShapes Go.ChangeAt Go.RowKit
/-- An exception fits the granule beside it, one way. -/
def FitAt (F : Fv) (st : Int) (i : Nat) : Prop := ∀ h : i < F.os.length, ∀ j, Nr F F.os[i].1 st j true → Fit (gr F j) ∧ (F.os[i].2 ≠ [] → (if st < 0 then decide (hullB (gr F j) < hullA F.os[i].2) else decide (hullB F.os[i].2 < hullA (gr F j))) = true)
def FitOk (F : Fv) : Prop := ∀ i, FitAt F (-1) i ∧ FitAt F 1 i
theorem nr_unique {F : Fv} {x st j k : Int} (hst : st = 1 ∨ st = -1) (h1 : Nr F x st j true) (h2 : Nr F x st k true) : j = k := by
  obtain ⟨a1, a2, a3⟩ := h1.yes rfl
  obtain ⟨b1, b2, b3⟩ := h2.yes rfl
  rcases Int.lt_trichotomy (j * st) (k * st) with q | q | q
  · exact absurd (b3 j a1 q) a2
  · rcases hst with rfl | rfl <;> omega
  · exact absurd (a3 k b1 q) b2
theorem fitAt_none {F : Fv} {st j : Int} {i : Nat} (h : ∀ q : i < F.os.length, Nr F F.os[i].1 st j false) : FitAt F st i := by
  intro q k hk
  obtain ⟨a1, a2, a3⟩ := hk.yes rfl
  exact absurd ((h q).no rfl k a1) a2
theorem fitAt_one {F : Fv} {st j : Int} {i : Nat} (hst : st = 1 ∨ st = -1) (hi : i < F.os.length) (h : Nr F F.os[i].1 st j true) : FitAt F st i ↔ (Fit (gr F j) ∧ (F.os[i].2 ≠ [] → (if st < 0 then decide (hullB (gr F j) < hullA F.os[i].2) else decide (hullB F.os[i].2 < hullA (gr F j))) = true)) := by
  constructor
  · intro q; exact q hi j h
  · intro q _ k hk
    obtain rfl := nr_unique hst h hk
    exact q
theorem fitAt_out {F : Fv} {st : Int} {i : Nat} (h : ¬ i < F.os.length) : FitAt F st i := fun q => absurd q h
set_option maxRecDepth 8000 in
set_option maxHeartbeats 4000000 in
theorem fitting_any (F : Fv) (w : World) (hF : F.At w) (ok : F.Ok) (r : Bool) (hr : r = true ↔ FitOk F) :
    Calls Try.prog 45 #[F.v] w fun e w' => e = .returned (.bool r) ∧ Below w.heap.size w w' := by
  have HOK := Lib.hid ok
  have HR := Lib.hid hr
  clear ok hr
  obtain ⟨P, N, co, cn, cc, oo, on, oc, cs, os⟩ := F
  have LC : Hid (cs.length = cn) := Lib.hid hF.core.len
  have LO : Hid (os.length = on) := Lib.hid hF.odd.len
  have hmc : cn ≤ 9223372036854775807 := Nat.le_trans hF.core.le hF.core.top
  have hmo : on ≤ 9223372036854775807 := Nat.le_trans hF.odd.le hF.odd.top
  obtain ⟨b, hb⟩ : ∃ b, w.heap.size = b := ⟨_, rfl⟩
  obtain ⟨wb, hwb⟩ : ∃ wb, w.alloc (.cells #[.int .i64 P, .int .i64 N, .slice co cn cc, .slice oo on oc] 25) = wb := ⟨_, rfl⟩
  have HBB : Hid (Fbox ⟨P, N, co, cn, cc, oo, on, oc, cs, os⟩ w wb b) := Lib.hid (by rw [← hwb, ← hb]; exact fbox_new hF)
  clear hF
  show Calls Try.prog 45 #[.agg #[.int .i64 P, .int .i64 N, .slice co cn cc, .slice oo on oc]] w _
  go_enter Try.func45, Try.ntmps45
  go_upto_region 1 with fail
  clear hwb hb
  have HR : Hid (r = true ↔ FitOk ⟨P, N, co, cn, cc, oo, on, oc, cs, os⟩) := HR
  have l0 := (box_cells wb (.int .i64 (-1)) (.int .i64 1) 3).1
  have l1 := (box_cells wb (.int .i64 (-1)) (.int .i64 1) 3).2
  have KA := Lib.hid ((Below.refl _ wb).alloc (Nat.le_refl _) (.cells #[.int .i64 (-1), .int .i64 1] 3))
  go_wp2
  obtain ⟨bl, hbl⟩ : ∃ q, wb.heap.size = q := ⟨_, rfl⟩
  generalize hwl : wb.alloc (.cells #[.int .i64 (-1), .int .i64 1] 3) = wl
  rw [hwl] at l0 l1 KA
  rw [hbl] at l0 l1
  rw [hbl]
  have HBB := Lib.hid (HBB.out.keep KA.out)
  have HL0 := Lib.hid l0
  have HL1 := Lib.hid l1
  clear hwl hbl KA l0 l1
  go_loopw [12] (fun ii wr => ∃ k : Nat, k ≤ 2 ∧ ii = .int .i64 k ∧ Hid ((0 < k → ∀ q, FitAt ⟨P, N, co, cn, cc, oo, on, oc, cs, os⟩ (-1) q) ∧ (1 < k → ∀ q, FitAt ⟨P, N, co, cn, cc, oo, on, oc, cs, os⟩ 1 q)) ∧ Hid (Fbox ⟨P, N, co, cn, cc, oo, on, oc, cs, os⟩ w wr b) ∧ Hid (wr.cell? ⟨bl, 0, none⟩ = some (.int .i64 (-1))) ∧ Hid (wr.cell? ⟨bl, 1, none⟩ = some (.int .i64 1))) (fun ii _ => 2 - (intOf ii).toNat)
  case atStart => exact ⟨0, by omega, rfl, Lib.hid ⟨fun h => absurd h (Nat.lt_irrefl _), fun h => by omega⟩, HBB, HL0, HL1⟩
  case round =>
    obtain ⟨k, hk, rfl, HK, HBB, HL0, HL1⟩ := hrel
    by_cases hk0 : k = 0
    · subst hk0
      have l0 := HL0.out
      have l1 := HL1.out
      have HNB := Lib.hid (neighbors_dn ⟨P, N, co, cn, cc, oo, on, oc, cs, os⟩ wr HBB.out.at_ HOK.out)
      have e0 : wr.cell? ⟨b, 0, none⟩ = some (.int .i64 P) := HBB.out.c0
      have e1 : wr.cell? ⟨b, 1, none⟩ = some (.int .i64 N) := HBB.out.c1
      have e2 : wr.cell? ⟨b, 2, none⟩ = some (.slice co cn cc) := HBB.out.c2
      have e3 : wr.cell? ⟨b, 3, none⟩ = some (.slice oo on oc) := HBB.out.c3
      go_wp2_with fail
      (with_reducible refine HNB.out.mono ?_)
      rintro e wo ⟨g, rfl, hbo, HROW⟩
      have HBB := Lib.hid (HBB.out.keep hbo.out)
      have HL0 := Lib.hid (cell_keep HL0.out hbo.out)
      have HL1 := Lib.hid (cell_keep HL1.out hbo.out)
      clear hbo HNB e0 e1 e2 e3
      clear l0 l1
      go_wp2
      go_loopw [20] (fun ii wr => ∃ i : Nat, i ≤ on ∧ ii = .int .i64 i ∧ Hid (∀ q, q < i → FitAt ⟨P, N, co, cn, cc, oo, on, oc, cs, os⟩ (-1 : Int) q) ∧ Hid (Below wo.heap.size wo wr)) (fun ii _ => on - (intOf ii).toNat)
      case atStart => exact ⟨0, Nat.zero_le _, rfl, Lib.hid (fun q h => absurd h (Nat.not_lt_zero _)), Lib.hid (Below.refl _ _)⟩
      case round =>
        obtain ⟨i, hi, rfl, HFI, HW⟩ := hrel
        by_cases ilt : i < on
        · have hil : i < os.length := by rw [LO.out]; exact ilt
          obtain ⟨j, ok, y1, y2, hN⟩ : ∃ j ok, wr.cell? ⟨g, i * 2, none⟩ = some (.int .i64 j) ∧ wr.cell? ⟨g, i * 2 + 1, none⟩ = some (.bool ok) ∧ Nr ⟨P, N, co, cn, cc, oo, on, oc, cs, os⟩ (os[i]'hil).1 (-1 : Int) j ok := by
            obtain ⟨xs, h1, h2⟩ := HROW.out
            obtain ⟨j, ok, x1, x2, x3⟩ := h2 i hil
            have h1 : wo.ownsRow _ 91 2 (.slice (some ⟨g, 0, none⟩) on on) on xs := h1
            refine ⟨j, ok, cell_keep ?_ HW.out, cell_keep ?_ HW.out, x3⟩
            · rw [h1.cellAt _ (by omega)]; exact x1
            · rw [h1.cellAt _ (by omega)]; exact x2
          have HN := Lib.hid hN
          have i0 : (0 : Int) ≤ (i : Int) := by omega
          have i1 : (i : Int) < (on : Int) := by omega
          clear hN
          have z1 := (box_cells wr (.int .i64 j) (.bool ok) 91).1
          have z2 := (box_cells wr (.int .i64 j) (.bool ok) 91).2
          have KA := Lib.hid ((Below.refl _ wr).alloc (Nat.le_refl _) (.cells #[.int .i64 j, .bool ok] 91))
          obtain ⟨bx, hbx⟩ : ∃ q, wr.heap.size = q := ⟨_, rfl⟩
          go_upto_region 7 with fail
          generalize hwx : wr.alloc (.cells #[.int .i64 j, .bool ok] 91) = wx
          rw [hwx] at z1 z2 KA
          rw [hbx] at z1 z2
          try rw [hbx]
          have HWX := Lib.hid (HW.out.trans (KA.out.mono HW.out.size))
          clear hwx hbx KA y1 y2
          have HBX := Lib.hid (HBB.out.keep HWX.out)
          cases ok
          · have HFA : Hid (∀ q, q < i + 1 → FitAt ⟨P, N, co, cn, cc, oo, on, oc, cs, os⟩ (-1 : Int) q) := Lib.hid (fun q h => by
              by_cases e : q = i
              · subst e; exact fitAt_none (fun _ => HN.out)
              · exact HFI.out q (by omega))
            clear HN
            clear hil
            go_wp2
            go_roundw
            case rel => exact ⟨i + 1, by omega, by go_num, HFA, HWX⟩
            case measure => simp [intOf]; omega
          · have HONE := Lib.hid (fitAt_one (F := ⟨P, N, co, cn, cc, oo, on, oc, cs, os⟩) (.inr rfl) hil HN.out)
            have HJ : Hid (-1152921504606846976 ≤ j ∧ j ≤ 1152921504606846976) := Lib.hid ⟨HN.out.low, HN.out.high⟩
            have hj1 := HJ.out.1
            have hj2 := HJ.out.2
            have HHU := Lib.hid (fun W h => hullOf_any ⟨P, N, co, cn, cc, oo, on, oc, cs, os⟩ j W h HOK.out (by omega) (by omega))
            obtain ⟨G, hG⟩ : ∃ q, gr ⟨P, N, co, cn, cc, oo, on, oc, cs, os⟩ j = q := ⟨_, rfl⟩
            rw [hG] at HONE HHU
            have e0 : wx.cell? ⟨b, 0, none⟩ = some (.int .i64 P) := HBX.out.c0
            have e1 : wx.cell? ⟨b, 1, none⟩ = some (.int .i64 N) := HBX.out.c1
            have e2 : wx.cell? ⟨b, 2, none⟩ = some (.slice co cn cc) := HBX.out.c2
            have e3 : wx.cell? ⟨b, 3, none⟩ = some (.slice oo on oc) := HBX.out.c3
            clear hG HN HJ
            go_wp2_with fail
            (with_reducible refine (HHU.out _ HBX.out.at_).mono ?_)
            rintro e w5 ⟨x, y, k, rfl, q, HV⟩
            have HWX := Lib.hid (HWX.out.trans (q.mono HWX.out.size))
            have HBX := Lib.hid (HBX.out.keep q)
            clear q e0 e1 e2 e3 HHU z1 z2
            have x1 := (box_cells w5 (.int .i64 x) (.int .i64 y) 50).1
            have x2 := (box_cells w5 (.int .i64 x) (.int .i64 y) 50).2
            have KA := Lib.hid ((Below.refl _ w5).alloc (Nat.le_refl _) (.cells #[.int .i64 x, .int .i64 y] 50))
            obtain ⟨bh, hbh⟩ : ∃ q, w5.heap.size = q := ⟨_, rfl⟩
            go_upto_region 9 with fail
            generalize hwh : w5.alloc (.cells #[.int .i64 x, .int .i64 y] 50) = wh
            rw [hwh] at x1 x2 KA
            rw [hbh] at x1 x2
            try rw [hbh]
            have HWX := Lib.hid (HWX.out.trans (KA.out.mono HWX.out.size))
            have HBX := Lib.hid (HBX.out.keep KA.out)
            clear hwh hbh KA
            rcases HV.out with ⟨v1, rfl, v3, v4⟩ | ⟨v1, rfl⟩
            · have HV1 := Lib.hid v1
              have HXY : Hid (x = hullA G ∧ y = hullB G) := Lib.hid ⟨v3, v4⟩
              clear v1 v3 v4 HV
              have e3 : wh.cell? ⟨b, 3, none⟩ = some (.slice oo on oc) := HBX.out.c3
              obtain ⟨qa, p, e, hcc⟩ := (show OdAt wh oo on oc os from HBX.out.at_.odd).here (by omega)
              cases e
              obtain ⟨d1, ⟨so, m, d, d2, d3⟩, d4, d5⟩ := hcc i hil
              obtain ⟨O, hO⟩ : ∃ z, (os[i]'hil).2 = z := ⟨_, rfl⟩
              have HON : Hid (FitAt ⟨P, N, co, cn, cc, some ⟨qa, p, none⟩, on, oc, cs, os⟩ (-1 : Int) i ↔ (Fit G ∧ (O ≠ [] → (if (-1 : Int) < 0 then decide (hullB G < hullA O) else decide (hullB O < hullA G)) = true))) := Lib.hid (by rw [← hO]; exact HONE.out)
              clear HONE
              have HONE := HON
              clear HON
              rw [hO] at d3
              have HSP := Lib.hid d3
              have HLM := Lib.hid d3.len
              clear hcc d1 d3 d4 d5 hO
              clear hil
              by_cases hm : m = 0
              · have m0 : ¬ (0 : Int) < (m : Int) := by omega
                have HFA : Hid (∀ q, q < i + 1 → FitAt ⟨P, N, co, cn, cc, some ⟨qa, p, none⟩, on, oc, cs, os⟩ (-1 : Int) q) := Lib.hid (fun q h => by
                  by_cases e : q = i
                  · subst e; exact HONE.out.2 ⟨HV1.out, fun h => absurd (List.eq_nil_of_length_eq_zero (by rw [HLM.out]; exact hm)) h⟩
                  · exact HFI.out q (by omega))
                clear HONE HSP HLM HV1 HXY
                go_wp2
                go_roundw
                case rel => exact ⟨i + 1, by omega, by go_num, HFA, HWX⟩
                case measure => simp [intOf]; omega
              · have m0 : (0 : Int) < (m : Int) := by omega
                have HNE : Hid (O ≠ []) := Lib.hid (fun h => by have h2 := HLM.out; rw [h] at h2; exact hm h2.symm)
                obtain ⟨r1, hr1⟩ : ∃ r1, (if (-1 : Int) < 0 then decide (hullB G < hullA O) else decide (hullB O < hullA G)) = r1 := ⟨_, rfl⟩
                have HIO := Lib.hid (fun W h => inOrder_any x y (-1 : Int) so m d O W h HNE.out r1 (by rw [HXY.out.1, HXY.out.2]; exact hr1))
                rw [hr1] at HONE
                clear hr1
                go_wp2_with fail
                (with_reducible refine (HIO.out _ HSP.out).mono ?_)
                rintro e w6 ⟨rfl, q⟩
                have HWX := Lib.hid (HWX.out.trans (q.mono HWX.out.size))
                have HBX := Lib.hid (HBX.out.keep q)
                clear q HIO HSP HXY x1 x2 e3 d2
                cases r1
                · have HBAD : Hid (false = r) := Lib.hid (by
                    cases r
                    · rfl
                    · have h2 := (HR.out.1 rfl i).1
                      have h3 := (HONE.out.1 h2).2 HNE.out
                      cases h3)
                  go_wp2
                  go_returns
                  exact ⟨ret_bool (by rw [← HBAD.out]), HBX.out.bw⟩
                · have HFA : Hid (∀ q, q < i + 1 → FitAt ⟨P, N, co, cn, cc, some ⟨qa, p, none⟩, on, oc, cs, os⟩ (-1 : Int) q) := Lib.hid (fun q h => by
                    by_cases e : q = i
                    · subst e; exact HONE.out.2 ⟨HV1.out, fun _ => rfl⟩
                    · exact HFI.out q (by omega))
                  clear HONE HLM HV1 HNE
                  go_wp2
                  go_roundw
                  case rel => exact ⟨i + 1, by omega, by go_num, HFA, HWX⟩
                  case measure => simp [intOf]; omega
            · have HBAD : Hid (false = r) := Lib.hid (by
                cases r
                · rfl
                · have h2 := (HR.out.1 rfl i).1
                  exact absurd (HONE.out.1 h2).1 v1)
              clear v1 HV
              go_wp2
              go_returns
              exact ⟨ret_bool (by rw [← HBAD.out]), HBX.out.bw⟩
        · obtain rfl : on = i := by omega
          have HALL : Hid (∀ q, FitAt ⟨P, N, co, cn, cc, oo, on, oc, cs, os⟩ (-1 : Int) q) := Lib.hid (fun q => by
            by_cases e : q < on
            · exact HFI.out q e
            · exact fitAt_out (by have := LO.out; show ¬ q < os.length; omega))
          have HBX := Lib.hid (HBB.out.keep HW.out)
          have HM0 := Lib.hid (cell_keep HL0.out HW.out)
          have HM1 := Lib.hid (cell_keep HL1.out HW.out)
          clear HFI HROW
          go_wp2
          go_roundw
          case rel => exact ⟨1, by omega, by go_num, Lib.hid ⟨fun _ => HALL.out, fun h => by omega⟩, HBX, HM0, HM1⟩
          case measure => simp [intOf]
    · by_cases hk1 : k = 1
      · subst hk1
        have l0 := HL0.out
        have l1 := HL1.out
        have HNB := Lib.hid (neighbors_up ⟨P, N, co, cn, cc, oo, on, oc, cs, os⟩ wr HBB.out.at_ HOK.out)
        have e0 : wr.cell? ⟨b, 0, none⟩ = some (.int .i64 P) := HBB.out.c0
        have e1 : wr.cell? ⟨b, 1, none⟩ = some (.int .i64 N) := HBB.out.c1
        have e2 : wr.cell? ⟨b, 2, none⟩ = some (.slice co cn cc) := HBB.out.c2
        have e3 : wr.cell? ⟨b, 3, none⟩ = some (.slice oo on oc) := HBB.out.c3
        go_wp2_with fail
        (with_reducible refine HNB.out.mono ?_)
        rintro e wo ⟨g, rfl, hbo, HROW⟩
        have HBB := Lib.hid (HBB.out.keep hbo.out)
        have HL0 := Lib.hid (cell_keep HL0.out hbo.out)
        have HL1 := Lib.hid (cell_keep HL1.out hbo.out)
        clear hbo HNB e0 e1 e2 e3
        clear l0 l1
        go_wp2
        go_loopw [20] (fun ii wr => ∃ i : Nat, i ≤ on ∧ ii = .int .i64 i ∧ Hid (∀ q, q < i → FitAt ⟨P, N, co, cn, cc, oo, on, oc, cs, os⟩ (1 : Int) q) ∧ Hid (Below wo.heap.size wo wr)) (fun ii _ => on - (intOf ii).toNat)
        case atStart => exact ⟨0, Nat.zero_le _, rfl, Lib.hid (fun q h => absurd h (Nat.not_lt_zero _)), Lib.hid (Below.refl _ _)⟩
        case round =>
          obtain ⟨i, hi, rfl, HFI, HW⟩ := hrel
          by_cases ilt : i < on
          · have hil : i < os.length := by rw [LO.out]; exact ilt
            obtain ⟨j, ok, y1, y2, hN⟩ : ∃ j ok, wr.cell? ⟨g, i * 2, none⟩ = some (.int .i64 j) ∧ wr.cell? ⟨g, i * 2 + 1, none⟩ = some (.bool ok) ∧ Nr ⟨P, N, co, cn, cc, oo, on, oc, cs, os⟩ (os[i]'hil).1 1 j ok := by
              obtain ⟨xs, h1, h2⟩ := HROW.out
              obtain ⟨j, ok, x1, x2, x3⟩ := h2 i hil
              have h1 : wo.ownsRow _ 91 2 (.slice (some ⟨g, 0, none⟩) on on) on xs := h1
              refine ⟨j, ok, cell_keep ?_ HW.out, cell_keep ?_ HW.out, x3⟩
              · rw [h1.cellAt _ (by omega)]; exact x1
              · rw [h1.cellAt _ (by omega)]; exact x2
            have HN := Lib.hid hN
            have i0 : (0 : Int) ≤ (i : Int) := by omega
            have i1 : (i : Int) < (on : Int) := by omega
            clear hN
            have z1 := (box_cells wr (.int .i64 j) (.bool ok) 91).1
            have z2 := (box_cells wr (.int .i64 j) (.bool ok) 91).2
            have KA := Lib.hid ((Below.refl _ wr).alloc (Nat.le_refl _) (.cells #[.int .i64 j, .bool ok] 91))
            obtain ⟨bx, hbx⟩ : ∃ q, wr.heap.size = q := ⟨_, rfl⟩
            go_upto_region 7 with fail
            generalize hwx : wr.alloc (.cells #[.int .i64 j, .bool ok] 91) = wx
            rw [hwx] at z1 z2 KA
            rw [hbx] at z1 z2
            try rw [hbx]
            have HWX := Lib.hid (HW.out.trans (KA.out.mono HW.out.size))
            clear hwx hbx KA y1 y2
            have HBX := Lib.hid (HBB.out.keep HWX.out)
            cases ok
            · have HFA : Hid (∀ q, q < i + 1 → FitAt ⟨P, N, co, cn, cc, oo, on, oc, cs, os⟩ (1 : Int) q) := Lib.hid (fun q h => by
                by_cases e : q = i
                · subst e; exact fitAt_none (fun _ => HN.out)
                · exact HFI.out q (by omega))
              clear HN
              clear hil
              go_wp2
              go_roundw
              case rel => exact ⟨i + 1, by omega, by go_num, HFA, HWX⟩
              case measure => simp [intOf]; omega
            · have HONE := Lib.hid (fitAt_one (F := ⟨P, N, co, cn, cc, oo, on, oc, cs, os⟩) (.inl rfl) hil HN.out)
              have HJ : Hid (-1152921504606846976 ≤ j ∧ j ≤ 1152921504606846976) := Lib.hid ⟨HN.out.low, HN.out.high⟩
              have hj1 := HJ.out.1
              have hj2 := HJ.out.2
              have HHU := Lib.hid (fun W h => hullOf_any ⟨P, N, co, cn, cc, oo, on, oc, cs, os⟩ j W h HOK.out (by omega) (by omega))
              obtain ⟨G, hG⟩ : ∃ q, gr ⟨P, N, co, cn, cc, oo, on, oc, cs, os⟩ j = q := ⟨_, rfl⟩
              rw [hG] at HONE HHU
              have e0 : wx.cell? ⟨b, 0, none⟩ = some (.int .i64 P) := HBX.out.c0
              have e1 : wx.cell? ⟨b, 1, none⟩ = some (.int .i64 N) := HBX.out.c1
              have e2 : wx.cell? ⟨b, 2, none⟩ = some (.slice co cn cc) := HBX.out.c2
              have e3 : wx.cell? ⟨b, 3, none⟩ = some (.slice oo on oc) := HBX.out.c3
              clear hG HN HJ
              go_wp2_with fail
              (with_reducible refine (HHU.out _ HBX.out.at_).mono ?_)
              rintro e w5 ⟨x, y, k, rfl, q, HV⟩
              have HWX := Lib.hid (HWX.out.trans (q.mono HWX.out.size))
              have HBX := Lib.hid (HBX.out.keep q)
              clear q e0 e1 e2 e3 HHU z1 z2
              have x1 := (box_cells w5 (.int .i64 x) (.int .i64 y) 50).1
              have x2 := (box_cells w5 (.int .i64 x) (.int .i64 y) 50).2
              have KA := Lib.hid ((Below.refl _ w5).alloc (Nat.le_refl _) (.cells #[.int .i64 x, .int .i64 y] 50))
              obtain ⟨bh, hbh⟩ : ∃ q, w5.heap.size = q := ⟨_, rfl⟩
              go_upto_region 9 with fail
              generalize hwh : w5.alloc (.cells #[.int .i64 x, .int .i64 y] 50) = wh
              rw [hwh] at x1 x2 KA
              rw [hbh] at x1 x2
              try rw [hbh]
              have HWX := Lib.hid (HWX.out.trans (KA.out.mono HWX.out.size))
              have HBX := Lib.hid (HBX.out.keep KA.out)
              clear hwh hbh KA
              rcases HV.out with ⟨v1, rfl, v3, v4⟩ | ⟨v1, rfl⟩
              · have HV1 := Lib.hid v1
                have HXY : Hid (x = hullA G ∧ y = hullB G) := Lib.hid ⟨v3, v4⟩
                clear v1 v3 v4 HV
                have e3 : wh.cell? ⟨b, 3, none⟩ = some (.slice oo on oc) := HBX.out.c3
                obtain ⟨qa, p, e, hcc⟩ := (show OdAt wh oo on oc os from HBX.out.at_.odd).here (by omega)
                cases e
                obtain ⟨d1, ⟨so, m, d, d2, d3⟩, d4, d5⟩ := hcc i hil
                obtain ⟨O, hO⟩ : ∃ z, (os[i]'hil).2 = z := ⟨_, rfl⟩
                have HON : Hid (FitAt ⟨P, N, co, cn, cc, some ⟨qa, p, none⟩, on, oc, cs, os⟩ (1 : Int) i ↔ (Fit G ∧ (O ≠ [] → (if (1 : Int) < 0 then decide (hullB G < hullA O) else decide (hullB O < hullA G)) = true))) := Lib.hid (by rw [← hO]; exact HONE.out)
                clear HONE
                have HONE := HON
                clear HON
                rw [hO] at d3
                have HSP := Lib.hid d3
                have HLM := Lib.hid d3.len
                clear hcc d1 d3 d4 d5 hO
                clear hil
                by_cases hm : m = 0
                · have m0 : ¬ (0 : Int) < (m : Int) := by omega
                  have HFA : Hid (∀ q, q < i + 1 → FitAt ⟨P, N, co, cn, cc, some ⟨qa, p, none⟩, on, oc, cs, os⟩ (1 : Int) q) := Lib.hid (fun q h => by
                    by_cases e : q = i
                    · subst e; exact HONE.out.2 ⟨HV1.out, fun h => absurd (List.eq_nil_of_length_eq_zero (by rw [HLM.out]; exact hm)) h⟩
                    · exact HFI.out q (by omega))
                  clear HONE HSP HLM HV1 HXY
                  go_wp2
                  go_roundw
                  case rel => exact ⟨i + 1, by omega, by go_num, HFA, HWX⟩
                  case measure => simp [intOf]; omega
                · have m0 : (0 : Int) < (m : Int) := by omega
                  have HNE : Hid (O ≠ []) := Lib.hid (fun h => by have h2 := HLM.out; rw [h] at h2; exact hm h2.symm)
                  obtain ⟨r1, hr1⟩ : ∃ r1, (if (1 : Int) < 0 then decide (hullB G < hullA O) else decide (hullB O < hullA G)) = r1 := ⟨_, rfl⟩
                  have HIO := Lib.hid (fun W h => inOrder_any x y (1 : Int) so m d O W h HNE.out r1 (by rw [HXY.out.1, HXY.out.2]; exact hr1))
                  rw [hr1] at HONE
                  clear hr1
                  go_wp2_with fail
                  (with_reducible refine (HIO.out _ HSP.out).mono ?_)
                  rintro e w6 ⟨rfl, q⟩
                  have HWX := Lib.hid (HWX.out.trans (q.mono HWX.out.size))
                  have HBX := Lib.hid (HBX.out.keep q)
                  clear q HIO HSP HXY x1 x2 e3 d2
                  cases r1
                  · have HBAD : Hid (false = r) := Lib.hid (by
                      cases r
                      · rfl
                      · have h2 := (HR.out.1 rfl i).2
                        have h3 := (HONE.out.1 h2).2 HNE.out
                        cases h3)
                    go_wp2
                    go_returns
                    exact ⟨ret_bool (by rw [← HBAD.out]), HBX.out.bw⟩
                  · have HFA : Hid (∀ q, q < i + 1 → FitAt ⟨P, N, co, cn, cc, some ⟨qa, p, none⟩, on, oc, cs, os⟩ (1 : Int) q) := Lib.hid (fun q h => by
                      by_cases e : q = i
                      · subst e; exact HONE.out.2 ⟨HV1.out, fun _ => rfl⟩
                      · exact HFI.out q (by omega))
                    clear HONE HLM HV1 HNE
                    go_wp2
                    go_roundw
                    case rel => exact ⟨i + 1, by omega, by go_num, HFA, HWX⟩
                    case measure => simp [intOf]; omega
              · have HBAD : Hid (false = r) := Lib.hid (by
                  cases r
                  · rfl
                  · have h2 := (HR.out.1 rfl i).2
                    exact absurd (HONE.out.1 h2).1 v1)
                clear v1 HV
                go_wp2
                go_returns
                exact ⟨ret_bool (by rw [← HBAD.out]), HBX.out.bw⟩
          · obtain rfl : on = i := by omega
            have HALL : Hid (∀ q, FitAt ⟨P, N, co, cn, cc, oo, on, oc, cs, os⟩ (1 : Int) q) := Lib.hid (fun q => by
              by_cases e : q < on
              · exact HFI.out q e
              · exact fitAt_out (by have := LO.out; show ¬ q < os.length; omega))
            have HBX := Lib.hid (HBB.out.keep HW.out)
            have HM0 := Lib.hid (cell_keep HL0.out HW.out)
            have HM1 := Lib.hid (cell_keep HL1.out HW.out)
            clear HFI HROW
            go_wp2
            go_roundw
            case rel => exact ⟨2, by omega, by go_num, Lib.hid ⟨fun _ => HK.out.1 (by omega), fun _ => HALL.out⟩, HBX, HM0, HM1⟩
            case measure => simp [intOf]
      · obtain rfl : k = 2 := by omega
        have HE : Hid (true = r) := Lib.hid (HR.out.2 (fun i => ⟨HK.out.1 (by omega) i, HK.out.2 (by omega) i⟩)).symm
        clear HK
        go_wp2
        go_returns
        exact ⟨ret_bool (by rw [← HE.out]), HBB.out.bw⟩
def Fv.Small (F : Fv) : Prop := F.cn ≤ 12 ∧ F.on ≤ 8 ∧ F.size ≤ 60
/-- A form is right. -/
structure Fv.Rt (F : Fv) : Prop where
  meas : F.Meas
  core : ∀ l ∈ F.cs, Good l
  odd : OddOk F.os
  ris : RisOk F.cs F.P
  fit : FitOk F
def rcode (r : Bool) : Int := if r then 0 else 50
theorem le_lens {l : List Sp} {ls : List (List Sp)} (h : l ∈ ls) : l.length ≤ lens ls := by
  induction ls with
  | nil => cases h
  | cons a r ih =>
    rcases List.mem_cons.1 h with rfl | h
    · simp [lens]
    · have := ih h; simp [lens]; omega
theorem ok_of {F : Fv} (hs : F.Small) (h1 : F.Meas) (h2 : ∀ l ∈ F.cs, Good l) (h3 : OddOk F.os) : F.Ok := by
  obtain ⟨a, b, c⟩ := hs
  unfold Fv.size at c
  refine ⟨h1, h2, h3, fun l hl => ?_, fun o ho => ?_, by omega, by omega⟩
  · have := le_lens hl; omega
  · have := le_lens (ls := tks F.os) (List.mem_map.2 ⟨o, ho, rfl⟩); omega
theorem meas_P {F : Fv} (h : F.Meas) : 0 ≤ F.P ∧ F.P ≤ 1099511627776 := by
  rcases h with ⟨_, h, _⟩ | ⟨_, _, h1, h2⟩ <;> omega
theorem Fv.Rt.ok {F : Fv} (h : F.Rt) (hs : F.Small) : F.Ok := ok_of hs h.meas h.core h.odd
set_option maxHeartbeats 2000000 in
theorem right_small (F : Fv) (w : World) (hF : F.At w) (hs : F.Small) (r : Bool) (hr : r = true ↔ F.Rt) :
    Calls Try.prog 18 #[F.v] w fun e w' => e = .returned (.int .i64 (rcode r)) ∧ Below w.heap.size w w' := by
  have HSM := Lib.hid hs
  have HR := Lib.hid hr
  have k1 := hs.1
  have k2 := hs.2.1
  have k3 := hs.2.2
  have HSZ := Lib.hid (fun W (h : F.At W) => size_any F W h (by omega) (by omega))
  obtain ⟨S, hS⟩ : ∃ q, F.size = q := ⟨_, rfl⟩
  rw [hS] at HSZ k3
  obtain ⟨r1, hr1⟩ : ∃ r : Bool, r = true ↔ F.Meas := by classical exact ⟨decide _, decide_eq_true_iff⟩
  obtain ⟨r2, hr2⟩ : ∃ r : Bool, r = true ↔ (∀ l ∈ F.cs, Good l) ∧ OddOk F.os := by classical exact ⟨decide _, decide_eq_true_iff⟩
  obtain ⟨r3, hr3⟩ : ∃ r : Bool, r = true ↔ RisOk F.cs F.P := by classical exact ⟨decide _, decide_eq_true_iff⟩
  obtain ⟨r4, hr4⟩ : ∃ r : Bool, r = true ↔ FitOk F := by classical exact ⟨decide _, decide_eq_true_iff⟩
  have HC1 := Lib.hid (fun W (h : F.At W) => measured_any F W h r1 hr1)
  have HC2 := Lib.hid (fun W (h : F.At W) => listed_any F W h r2 hr2)
  have HC3 := Lib.hid (fun (q1 : r1 = true) (q2 : r2 = true) W (h : F.At W) => rising_any F W h (hr2.1 q2).1 (meas_P (hr1.1 q1)).1 (meas_P (hr1.1 q1)).2 r3 hr3)
  have HC4 := Lib.hid (fun (q1 : r1 = true) (q2 : r2 = true) W (h : F.At W) => fitting_any F W h (ok_of hs (hr1.1 q1) (hr2.1 q2).1 (hr2.1 q2).2) r4 hr4)
  have HN : Hid (r = (r1 && r2 && r3 && r4)) := Lib.hid (by
    have h : F.Rt ↔ (r1 && r2 && r3 && r4) = true := by
      simp only [Bool.and_eq_true, hr1, hr2, hr3, hr4]
      exact ⟨fun h => ⟨⟨⟨h.meas, h.core, h.odd⟩, h.ris⟩, h.fit⟩, fun h => ⟨h.1.1.1, h.1.1.2.1, h.1.1.2.2, h.1.2, h.2⟩⟩
    have h2 := hr.trans h
    cases r <;> cases hq : (r1 && r2 && r3 && r4) <;> simp_all)
  clear hr hr1 hr2 hr3 hr4 hS hs HR HSM
  obtain ⟨P, N, co, cn, cc, oo, on, oc, cs, os⟩ := F
  have LC : Hid (cs.length = cn) := Lib.hid hF.core.len
  have LO : Hid (os.length = on) := Lib.hid hF.odd.len
  have hmc : cn ≤ 9223372036854775807 := Nat.le_trans hF.core.le hF.core.top
  have hmo : on ≤ 9223372036854775807 := Nat.le_trans hF.odd.le hF.odd.top
  obtain ⟨b, hb⟩ : ∃ b, w.heap.size = b := ⟨_, rfl⟩
  obtain ⟨wb, hwb⟩ : ∃ wb, w.alloc (.cells #[.int .i64 P, .int .i64 N, .slice co cn cc, .slice oo on oc] 25) = wb := ⟨_, rfl⟩
  have HBB : Hid (Fbox ⟨P, N, co, cn, cc, oo, on, oc, cs, os⟩ w wb b) := Lib.hid (by rw [← hwb, ← hb]; exact fbox_new hF)
  clear hF
  show Calls Try.prog 18 #[.agg #[.int .i64 P, .int .i64 N, .slice co cn cc, .slice oo on oc]] w _
  go_enter Try.func18, Try.ntmps18
  go_upto_region 1 with fail
  clear hwb hb
  have e0 : wb.cell? ⟨b, 0, none⟩ = some (.int .i64 P) := HBB.out.c0
  have e1 : wb.cell? ⟨b, 1, none⟩ = some (.int .i64 N) := HBB.out.c1
  have e2 : wb.cell? ⟨b, 2, none⟩ = some (.slice co cn cc) := HBB.out.c2
  have e3 : wb.cell? ⟨b, 3, none⟩ = some (.slice oo on oc) := HBB.out.c3
  have HSZ : Hid (∀ W, Fv.At ⟨P, N, co, cn, cc, oo, on, oc, cs, os⟩ W → Calls Try.prog 41 #[.agg #[.int .i64 P, .int .i64 N, .slice co cn cc, .slice oo on oc]] W fun e w' => e = .returned (.int .i64 (S : Nat)) ∧ Below W.heap.size W w') := HSZ
  have HC1 : Hid (∀ W, Fv.At ⟨P, N, co, cn, cc, oo, on, oc, cs, os⟩ W → Calls Try.prog 42 #[.agg #[.int .i64 P, .int .i64 N, .slice co cn cc, .slice oo on oc]] W fun e w' => e = .returned (.bool r1) ∧ Below W.heap.size W w') := HC1
  have HC2 : Hid (∀ W, Fv.At ⟨P, N, co, cn, cc, oo, on, oc, cs, os⟩ W → Calls Try.prog 43 #[.agg #[.int .i64 P, .int .i64 N, .slice co cn cc, .slice oo on oc]] W fun e w' => e = .returned (.bool r2) ∧ Below W.heap.size W w') := HC2
  have HC3 : Hid (r1 = true → r2 = true → ∀ W, Fv.At ⟨P, N, co, cn, cc, oo, on, oc, cs, os⟩ W → Calls Try.prog 44 #[.agg #[.int .i64 P, .int .i64 N, .slice co cn cc, .slice oo on oc]] W fun e w' => e = .returned (.bool r3) ∧ Below W.heap.size W w') := HC3
  have HC4 : Hid (r1 = true → r2 = true → ∀ W, Fv.At ⟨P, N, co, cn, cc, oo, on, oc, cs, os⟩ W → Calls Try.prog 45 #[.agg #[.int .i64 P, .int .i64 N, .slice co cn cc, .slice oo on oc]] W fun e w' => e = .returned (.bool r4) ∧ Below W.heap.size W w') := HC4
  have k1 : cn ≤ 12 := k1
  have k2 : on ≤ 8 := k2
  have t1 : (cn : Int) ≤ 12 := by omega
  have t2 : (on : Int) ≤ 8 := by omega
  have t3 : (S : Int) ≤ 60 := by omega
  go_wp2_with fail
  (with_reducible refine (HSZ.out _ HBB.out.at_).mono ?_)
  rintro e w2 ⟨rfl, q⟩
  have HBB := Lib.hid (HBB.out.keep q)
  clear q e0 e1 e2 e3 HSZ
  have e0 : w2.cell? ⟨b, 0, none⟩ = some (.int .i64 P) := HBB.out.c0
  have e1 : w2.cell? ⟨b, 1, none⟩ = some (.int .i64 N) := HBB.out.c1
  have e2 : w2.cell? ⟨b, 2, none⟩ = some (.slice co cn cc) := HBB.out.c2
  have e3 : w2.cell? ⟨b, 3, none⟩ = some (.slice oo on oc) := HBB.out.c3
  go_wp2_with fail
  (with_reducible refine (HC1.out _ HBB.out.at_).mono ?_)
  rintro e w3 ⟨rfl, q⟩
  have HBB := Lib.hid (HBB.out.keep q)
  clear q e0 e1 e2 e3
  cases r1
  · have HE : Hid (r = false) := Lib.hid (by rw [HN.out]; simp)
    clear HN
    go_wp2
    go_returns
    exact ⟨ret_int (by rw [HE.out]; rfl), HBB.out.bw⟩
  · skip
    have e0 : w3.cell? ⟨b, 0, none⟩ = some (.int .i64 P) := HBB.out.c0
    have e1 : w3.cell? ⟨b, 1, none⟩ = some (.int .i64 N) := HBB.out.c1
    have e2 : w3.cell? ⟨b, 2, none⟩ = some (.slice co cn cc) := HBB.out.c2
    have e3 : w3.cell? ⟨b, 3, none⟩ = some (.slice oo on oc) := HBB.out.c3
    go_wp2_with fail
    (with_reducible refine (HC2.out _ HBB.out.at_).mono ?_)
    rintro e w4 ⟨rfl, q⟩
    have HBB := Lib.hid (HBB.out.keep q)
    clear q e0 e1 e2 e3
    cases r2
    · have HE : Hid (r = false) := Lib.hid (by rw [HN.out]; simp)
      clear HN
      go_wp2
      go_returns
      exact ⟨ret_int (by rw [HE.out]; rfl), HBB.out.bw⟩
    · skip
      have e0 : w4.cell? ⟨b, 0, none⟩ = some (.int .i64 P) := HBB.out.c0
      have e1 : w4.cell? ⟨b, 1, none⟩ = some (.int .i64 N) := HBB.out.c1
      have e2 : w4.cell? ⟨b, 2, none⟩ = some (.slice co cn cc) := HBB.out.c2
      have e3 : w4.cell? ⟨b, 3, none⟩ = some (.slice oo on oc) := HBB.out.c3
      go_wp2_with fail
      (with_reducible refine (HC3.out (by first | rfl | trivial) (by first | rfl | trivial) _ HBB.out.at_).mono ?_)
      rintro e w5 ⟨rfl, q⟩
      have HBB := Lib.hid (HBB.out.keep q)
      clear q e0 e1 e2 e3
      cases r3
      · have HE : Hid (r = false) := Lib.hid (by rw [HN.out]; simp)
        clear HN
        go_wp2
        go_returns
        exact ⟨ret_int (by rw [HE.out]; rfl), HBB.out.bw⟩
      · skip
        have e0 : w5.cell? ⟨b, 0, none⟩ = some (.int .i64 P) := HBB.out.c0
        have e1 : w5.cell? ⟨b, 1, none⟩ = some (.int .i64 N) := HBB.out.c1
        have e2 : w5.cell? ⟨b, 2, none⟩ = some (.slice co cn cc) := HBB.out.c2
        have e3 : w5.cell? ⟨b, 3, none⟩ = some (.slice oo on oc) := HBB.out.c3
        go_wp2_with fail
        (with_reducible refine (HC4.out (by first | rfl | trivial) (by first | rfl | trivial) _ HBB.out.at_).mono ?_)
        rintro e w6 ⟨rfl, q⟩
        have HBB := Lib.hid (HBB.out.keep q)
        clear q e0 e1 e2 e3
        cases r4
        · have HE : Hid (r = false) := Lib.hid (by rw [HN.out]; simp)
          clear HN
          go_wp2
          go_returns
          exact ⟨ret_int (by rw [HE.out]; rfl), HBB.out.bw⟩
        · have HE : Hid (r = true) := Lib.hid (by rw [HN.out]; rfl)
          clear HN
          go_wp2
          go_returns
          exact ⟨ret_int (by rw [HE.out]; rfl), HBB.out.bw⟩
theorem moved_ord {l : List Sp} (g : Good l) (d : Int) : ∀ s ∈ moved l d, s.1 ≤ s.2 := by
  intro s hs
  obtain ⟨u, hu, rfl⟩ := List.mem_map.1 hs
  obtain ⟨i, hi, rfl⟩ := List.getElem_of_mem hu
  have := good_at g i hi
  show l[i].1 + d ≤ l[i].2 + d
  omega
theorem cset_good {cs : List (List Sp)} (h : ∀ l ∈ cs, Good l) (N i : Int) : Good (cset cs N i) := by
  unfold cset
  rw [List.getD_eq_getElem?_getD]
  cases e : cs[(i.fmod N).toNat]? with
  | none => trivial
  | some l => exact h l (List.mem_of_getElem? e)
theorem gr_core {F : Fv} (h : F.Ok) (i : Int) : (∃ l d, Good l ∧ gr F i = moved l d) := by
  unfold gr
  cases e : exc F.os i with
  | some l =>
    obtain ⟨n, hn, h1, h2⟩ := exc_some e
    refine ⟨l, 0, ?_, ?_⟩
    · rw [← h2]; exact (h.odd.good _ (List.getElem_mem hn)).1
    · show l = moved l 0
      unfold moved; simp
  | none =>
    unfold cg
    by_cases q : 0 < F.N ∧ F.N = F.cs.length
    · exact ⟨cset F.cs F.N i, F.P * i.fdiv F.N, cset_good h.core _ _, by simp only [if_pos q]⟩
    · exact ⟨[], 0, trivial, by simp only [if_neg q]; rfl⟩
theorem gr_ord {F : Fv} (h : F.Ok) (i : Int) : ∀ s ∈ gr F i, s.1 ≤ s.2 := by
  obtain ⟨l, d, g, e⟩ := gr_core h i
  rw [e]; exact moved_ord g d
theorem gr_good {F : Fv} (h : F.Ok) {i : Int} (hf : Fit (gr F i)) : Good (gr F i) := by
  obtain ⟨l, d, g, e⟩ := gr_core h i
  rw [e] at hf ⊢
  exact good_moved d g ((fit_moved l d).1 hf)
theorem ahd_thru {a b c : List Sp} (hb : b ≠ []) (ho : ∀ s ∈ b, s.1 ≤ s.2) (h1 : Ahd a b) (h2 : Ahd b c) : Ahd a c := by
  intro s hs u hu
  obtain ⟨v, hv⟩ := List.exists_mem_of_ne_nil b hb
  have := h1 s hs v hv
  have := h2 v hv u hu
  have := ho v hv
  omega
theorem core_order {F : Fv} (h : F.Rt) (hl : F.cs.length = F.cn) {i k : Int} (hik : i < k) : Ahd (cg F.cs F.P F.N i) (cg F.cs F.P F.N k) := by
  unfold cg
  by_cases q : 0 < F.N ∧ F.N = F.cs.length
  · rw [if_pos q, if_pos q]
    obtain ⟨q1, q2⟩ := q
    have hP : 1 ≤ F.P := by
      rcases h.meas with ⟨a, _, _⟩ | ⟨_, _, a, _⟩
      · omega
      · exact a
    obtain ⟨a1, a2⟩ := fmod_nat i q1
    obtain ⟨b1, b2⟩ := fmod_nat k q1
    have ei := fmod_eq i F.N
    have ek := fmod_eq k F.N
    have li : (i.fmod F.N).toNat < F.cs.length := by omega
    have lk : (k.fmod F.N).toNat < F.cs.length := by omega
    have ci : cset F.cs F.N i = F.cs[(i.fmod F.N).toNat] := by unfold cset; rw [List.getD_eq_getElem?_getD, List.getElem?_eq_getElem li]; rfl
    have ck : cset F.cs F.N k = F.cs[(k.fmod F.N).toNat] := by unfold cset; rw [List.getD_eq_getElem?_getD, List.getElem?_eq_getElem lk]; rfl
    rcases Int.lt_trichotomy (i.fdiv F.N) (k.fdiv F.N) with z | z | z
    · intro s hs u hu
      obtain ⟨s', hs', rfl⟩ := List.mem_map.1 hs
      obtain ⟨u', hu', rfl⟩ := List.mem_map.1 hu
      rw [ci] at hs'
      rw [ck] at hu'
      have t := h.ris.turn _ (List.getElem_mem li) _ (List.getElem_mem lk) s' hs' u' hu'
      have m1 : F.P * (i.fdiv F.N + 1) ≤ F.P * k.fdiv F.N := Int.mul_le_mul_of_nonneg_left (by omega) (by omega)
      rw [Int.mul_add, Int.mul_one] at m1
      show s'.2 + F.P * i.fdiv F.N < u'.1 + F.P * k.fdiv F.N
      omega
    · rw [z] at ei ⊢
      rw [ahd_moved, ci, ck]
      exact List.pairwise_iff_getElem.1 h.ris.order _ _ li lk (by omega)
    · have m1 : F.N * (k.fdiv F.N + 1) ≤ F.N * i.fdiv F.N := Int.mul_le_mul_of_nonneg_left (by omega) (by omega)
      rw [Int.mul_add, Int.mul_one] at m1
      omega
  · rw [if_neg q]
    intro s hs; cases hs
theorem gr_adj {F : Fv} (h : F.Rt) (ok : F.Ok) (hl : F.cs.length = F.cn) {i k : Int} (hik : i < k) (hi : gr F i ≠ []) (hk : gr F k ≠ []) (hm : ∀ m, i < m → m < k → gr F m = []) (i1 : -1099511627776 ≤ i) (k1 : k ≤ 1099511627776) : Ahd (gr F i) (gr F k) := by
  cases ek : exc F.os k with
  | some l =>
    obtain ⟨n, hn, h1, h2⟩ := exc_some ek
    have hg := gr_at ok.odd.inc n hn
    rw [h1] at hg
    have f := (h.fit n).1 hn i ⟨fun _ => ⟨by rw [h1]; omega, hi, fun m m1 m2 => hm m (by omega) (by rw [h1] at m1; omega)⟩, (fun z => by cases z), by omega, by omega⟩
    rw [← hg] at f
    have g1 := gr_good ok f.1
    have g2 : Good (gr F k) := by rw [hg]; exact (ok.odd.good _ (List.getElem_mem hn)).1
    have := f.2 hk
    simp at this
    exact (ahd_hull g1 g2 hi hk).2 this
  | none =>
    cases ei : exc F.os i with
    | some l =>
      obtain ⟨n, hn, h1, h2⟩ := exc_some ei
      have hg := gr_at ok.odd.inc n hn
      rw [h1] at hg
      have f := (h.fit n).2 hn k ⟨fun _ => ⟨by rw [h1]; omega, hk, fun m m1 m2 => hm m (by rw [h1] at m1; omega) (by omega)⟩, (fun z => by cases z), by omega, by omega⟩
      rw [← hg] at f
      have g1 := gr_good ok f.1
      have g2 : Good (gr F i) := by rw [hg]; exact (ok.odd.good _ (List.getElem_mem hn)).1
      have := f.2 hi
      simp at this
      exact (ahd_hull g2 g1 hi hk).2 this
    | none =>
      rw [gr_free ei, gr_free ek]
      exact core_order h hl hik
theorem gr_order {F : Fv} (h : F.Rt) (ok : F.Ok) (hl : F.cs.length = F.cn) : ∀ (n : Nat) {i k : Int}, (k - i).toNat ≤ n → i < k → -1099511627776 ≤ i → k ≤ 1099511627776 → Ahd (gr F i) (gr F k)
  | 0, i, k, hn, hik, _, _ => by omega
  | n + 1, i, k, hn, hik, i1, k1 => by
    by_cases hi : gr F i = []
    · rw [hi]; intro s hs; cases hs
    · by_cases hk : gr F k = []
      · rw [hk]; intro s _ u hu; cases hu
      · by_cases hm : ∃ m, i < m ∧ m < k ∧ gr F m ≠ []
        · obtain ⟨m, m1, m2, m3⟩ := hm
          exact ahd_thru m3 (gr_ord ok m) (gr_order h ok hl n (by omega) m1 i1 (by omega)) (gr_order h ok hl n (by omega) m2 (by omega) k1)
        · refine gr_adj h ok hl hik hi hk (fun m m1 m2 => ?_) i1 k1
          by_cases z : gr F m = []
          · exact z
          · exact absurd ⟨m, m1, m2, z⟩ hm
/-- The core has as many sets as it counts. -/
def Full (cs : List (List Sp)) (N : Int) : Prop := 0 < N ∧ N = cs.length
theorem cg_in {cs : List (List Sp)} {P N i : Int} (h : Full cs N) : cg cs P N i = moved (cset cs N i) (P * i.fdiv N) := by unfold cg; exact if_pos h
theorem cg_out {cs : List (List Sp)} {P N i : Int} (h : ¬ Full cs N) : cg cs P N i = [] := by unfold cg; exact if_neg h
theorem moved_moved (l : List Sp) (a b : Int) : moved (moved l a) b = moved l (a + b) := by
  unfold moved
  rw [List.map_map]
  apply List.map_congr_left
  intro s _
  simp only [Function.comp, Prod.mk.injEq]
  omega
theorem moved_zero (l : List Sp) : moved l 0 = l := by unfold moved; simp
theorem moved_inj {l k : List Sp} {d : Int} (h : moved l d = moved k d) : l = k := by
  have := congrArg (fun x => moved x (-d)) h
  simp only [moved_back] at this
  exact this
theorem moved_far {l : List Sp} (h : l ≠ []) {a b : Int} (e : moved l a = moved l b) : a = b := by
  cases l with
  | nil => exact absurd rfl h
  | cons s r =>
    rw [moved_cons, moved_cons] at e
    have := (List.cons.inj e).1
    simp only [Prod.mk.injEq] at this
    omega
theorem moved_ne {l : List Sp} {d : Int} : moved l d ≠ [] ↔ l ≠ [] := by
  unfold moved; simp
theorem cg_next {cs : List (List Sp)} {P N k : Int} (h : Full cs N) : cg cs P N (k + N) = moved (cg cs P N k) P := by
  rw [cg_in h, cg_in h, moved_moved]
  have h0 := h.1
  have h1 : (k + N).fmod N = k.fmod N := Int.add_fmod_right k N
  have h2 : (k + N).fdiv N = k.fdiv N + 1 := by
    have e1 := fmod_eq k N
    have e2 := fmod_eq (k + N) N
    rw [h1] at e2
    have : N * (k + N).fdiv N = N * (k.fdiv N + 1) := by rw [Int.mul_add, Int.mul_one]; omega
    exact Int.eq_of_mul_eq_mul_left (by omega) this
  unfold cset
  rw [h1, h2, Int.mul_add, Int.mul_one]
/-- A sequence that goes on by d sets goes on by any number of them. -/
theorem seq_iter {S : Int → List Sp} {d p : Int} (h : ∀ i, S (i + d) = moved (S i) p) : ∀ (q i : Int), S (i + d * q) = moved (S i) (p * q) := by
  have up : ∀ (n : Nat) (i : Int), S (i + d * (n : Int)) = moved (S i) (p * (n : Int)) := by
    intro n
    induction n with
    | zero => intro i; simp [moved_zero]
    | succ n ih =>
      intro i
      have e : i + d * ((n + 1 : Nat) : Int) = i + d * (n : Int) + d := by rw [Int.natCast_add, Int.mul_add]; simp; omega
      rw [e, h, ih, moved_moved]
      congr 1
      rw [Int.natCast_add, Int.mul_add]; simp
  intro q i
  rcases Int.le_total 0 q with z | z
  · have := up q.toNat i
    rwa [show ((q.toNat : Nat) : Int) = q by omega] at this
  · have := up (-q).toNat (i + d * q)
    rw [show (((-q).toNat : Nat) : Int) = -q by omega] at this
    have e : i + d * q + d * -q = i := by rw [Int.mul_neg]; omega
    rw [e] at this
    have h2 := congrArg (fun x => moved x (p * q)) this
    simp only [moved_moved] at h2
    rw [h2, show p * -q + p * q = 0 by rw [Int.mul_neg]; omega, moved_zero]
theorem cg_nexts {cs : List (List Sp)} {P N : Int} (h : Full cs N) (q k : Int) : cg cs P N (k + N * q) = moved (cg cs P N k) (P * q) := seq_iter (S := cg cs P N) (fun i => cg_next h) q k
theorem cg_nat {cs : List (List Sp)} {P N : Int} (h : Full cs N) {i : Nat} (hi : i < cs.length) : cg cs P N (i : Int) = cs[i] := by
  rw [cg_in h]
  obtain ⟨h0, h1⟩ := h
  have e1 : (i : Int).fmod N = i := by rw [Int.fmod_eq_emod_of_nonneg _ (by omega), Int.emod_eq_of_lt (by omega) (by omega)]
  have e2 : (i : Int).fdiv N = 0 := by
    have := fmod_eq (i : Int) N
    rw [e1] at this
    have h3 : N * (i : Int).fdiv N = N * 0 := by omega
    exact Int.eq_of_mul_eq_mul_left (by omega) h3
  unfold cset
  rw [e1, e2, Int.mul_zero, moved_zero, Int.toNat_natCast, List.getD_eq_getElem?_getD, List.getElem?_eq_getElem hi]
  rfl
/-- An index as a place in the core and so many turns. -/
theorem cg_split {cs : List (List Sp)} {P N : Int} (h : Full cs N) (i : Int) : ∃ (r : Nat) (q : Int) (hr : r < cs.length), i = r + N * q ∧ cg cs P N i = moved cs[r] (P * q) := by
  obtain ⟨h0, h1⟩ := fmod_nat i h.1
  have hr : (i.fmod N).toNat < cs.length := by have := h.2; omega
  refine ⟨(i.fmod N).toNat, i.fdiv N, hr, ?_, ?_⟩
  · have := fmod_eq i N; omega
  · have e : i = ((i.fmod N).toNat : Int) + N * i.fdiv N := by have := fmod_eq i N; omega
    have q := cg_nexts (P := P) h (i.fdiv N) ((i.fmod N).toNat : Int)
    rw [← e] at q
    rw [q, cg_nat h hr]
/-- d sets are a turn. -/
structure TurnOk (cs : List (List Sp)) (P N : Int) (d : Nat) : Prop where
  pos : 0 < d
  div : (d : Int) ∣ N
  per : N ∣ P * d
  go : ∀ i : Int, cg cs P N (i + d) = moved (cg cs P N i) (P * d / N)
/-- A turn is seen at the places of the core. -/
theorem turn_of {cs : List (List Sp)} {P N : Int} {d : Nat} (h : Full cs N) (h1 : 0 < d) (h2 : (d : Int) ∣ N) (h3 : N ∣ P * d) (hg : ∀ i : Nat, i < cs.length → cg cs P N ((i : Int) + d) = moved (cg cs P N (i : Int)) (P * d / N)) : TurnOk cs P N d := by
  refine ⟨h1, h2, h3, fun i => ?_⟩
  obtain ⟨r, q, hr, e, _⟩ := cg_split (P := P) h i
  have a := cg_nexts (P := P) h q ((r : Int) + d)
  have b := cg_nexts (P := P) h q (r : Int)
  rw [e, show (r : Int) + N * q + d = r + d + N * q by omega, a, b, hg r hr, moved_moved, moved_moved, Int.add_comm]
/-- What is looked at: a place of the core, and the one d further, which may lie in the next turn. -/
theorem turn_at {cs : List (List Sp)} {P N by_ : Int} {d : Nat} (h : Full cs N) {i : Nat} (hi : i < cs.length) (hd : d ≤ cs.length) : cg cs P N ((i : Int) + d) = moved (cg cs P N (i : Int)) by_ ↔ (∃ h : i + d < cs.length, moved cs[i] by_ = cs[i + d]) ∨ (cs.length ≤ i + d ∧ ∃ h : i + d - cs.length < cs.length, moved cs[i] (by_ - P) = cs[i + d - cs.length]) := by
  rw [cg_nat h hi]
  by_cases q : i + d < cs.length
  · have e : cg cs P N ((i : Int) + d) = cs[i + d] := by
      have := cg_nat (P := P) h q
      rwa [Int.natCast_add] at this
    rw [e]
    constructor
    · intro z; exact .inl ⟨q, z.symm⟩
    · rintro (⟨_, z⟩ | ⟨z, _⟩)
      · exact z.symm
      · omega
  · have q2 : i + d - cs.length < cs.length := by omega
    have e : cg cs P N ((i : Int) + d) = moved cs[i + d - cs.length] P := by
      have a := cg_next (P := P) h (k := ((i + d - cs.length : Nat) : Int))
      rw [cg_nat h q2] at a
      rw [← a]
      congr 1
      have := h.2
      omega
    rw [e]
    have k : moved cs[i + d - cs.length] P = moved cs[i] by_ ↔ moved cs[i] (by_ - P) = cs[i + d - cs.length] := by
      constructor
      · intro z
        have z2 := congrArg (fun x => moved x (-P)) z
        simp only [moved_moved] at z2
        rw [show P + -P = 0 by omega, moved_zero] at z2
        rw [z2, show by_ - P = by_ + -P by omega]
      · intro z
        rw [← z, moved_moved, show by_ - P + P = by_ by omega]
    rw [k]
    constructor
    · intro z; exact .inr ⟨by omega, q2, z⟩
    · rintro (⟨z, _⟩ | ⟨_, _, z⟩)
      · omega
      · exact z
theorem turn_all {cs : List (List Sp)} {P N : Int} (h : Full cs N) : TurnOk cs P N cs.length := by
  have e := h.2
  refine ⟨by have := h.1; omega, by rw [e]; exact Int.dvd_refl _, by rw [← e]; exact Int.dvd_mul_left _ _, fun i => ?_⟩
  rw [← e, Int.mul_ediv_cancel _ (by have := h.1; omega)]
  exact cg_next h
/-- The least turn; 0 if the core has no granule. -/
def IsTurn (cs : List (List Sp)) (P N : Int) (d : Nat) : Prop := (d = 0 ∧ ∀ l ∈ cs, l = []) ∨ ((∃ l ∈ cs, l ≠ []) ∧ TurnOk cs P N d ∧ ∀ e, TurnOk cs P N e → d ≤ e)
theorem isTurn_ex {cs : List (List Sp)} {P N : Int} (h : Full cs N ∨ cs = []) : ∃ d, IsTurn cs P N d := by
  by_cases q : ∃ l ∈ cs, l ≠ []
  · rcases h with h | h
    · have : ∃ n, ∃ d, TurnOk cs P N d ∧ d ≤ n := ⟨_, _, turn_all h, Nat.le_refl _⟩
      have key : ∀ n, (∃ d, TurnOk cs P N d ∧ d ≤ n) → ∃ d, TurnOk cs P N d ∧ ∀ e, TurnOk cs P N e → d ≤ e := by
        intro n
        induction n with
        | zero => rintro ⟨d, a, b⟩; have := a.pos; omega
        | succ n ih =>
          rintro ⟨d, a, b⟩
          by_cases z : ∃ d, TurnOk cs P N d ∧ d ≤ n
          · exact ih z
          · refine ⟨d, a, fun e he => ?_⟩
            rcases Nat.lt_or_ge n e with y | y
            · omega
            · exact absurd ⟨e, he, y⟩ z
      obtain ⟨n, hn⟩ := this
      obtain ⟨d, a, b⟩ := key n hn
      exact ⟨d, .inr ⟨q, a, b⟩⟩
    · subst h
      obtain ⟨l, hl, _⟩ := q
      cases hl
  · refine ⟨0, .inl ⟨rfl, fun l hl => ?_⟩⟩
    by_cases z : l = []
    · exact z
    · exact absurd ⟨l, hl, z⟩ q
theorem isTurn_unique {cs : List (List Sp)} {P N : Int} {d e : Nat} (h1 : IsTurn cs P N d) (h2 : IsTurn cs P N e) : d = e := by
  rcases h1 with ⟨a, b⟩ | ⟨⟨l, hl, hn⟩, a, b⟩
  · rcases h2 with ⟨c, _⟩ | ⟨⟨l, hl, hn⟩, _⟩
    · omega
    · exact absurd (b l hl) hn
  · rcases h2 with ⟨_, c⟩ | ⟨_, c1, c2⟩
    · exact absurd (c l hl) hn
    · have := b e c1; have := c2 d a; omega
theorem cg_bare {cs : List (List Sp)} {P N : Int} (h : ∀ l ∈ cs, l = []) (i : Int) : cg cs P N i = [] := by
  by_cases f : Full cs N
  · obtain ⟨r, q, hr, _, e⟩ := cg_split (P := P) f i
    rw [e, h _ (List.getElem_mem hr)]; rfl
  · exact cg_out f
/-- The period of a turn. -/
def canP (P N : Int) (d : Nat) : Int := if d = 0 then 0 else P * d / N
theorem turn_le {cs : List (List Sp)} {P N : Int} {d : Nat} (h : Full cs N) (t : TurnOk cs P N d) : d ≤ cs.length := by
  have h0 := h.1
  have := Int.le_of_dvd h0 t.div
  have := h.2
  omega
theorem take_full {cs : List (List Sp)} {P N : Int} {d : Nat} (h : Full cs N) (t : TurnOk cs P N d) : Full (cs.take d) (d : Int) := by
  have := turn_le h t
  have := t.pos
  exact ⟨by omega, by rw [List.length_take, Nat.min_eq_left (by omega)]⟩
/-- A core of one turn has the same sets. -/
theorem can_core {cs : List (List Sp)} {P N : Int} {d : Nat} (h : Full cs N ∨ cs = []) (t : IsTurn cs P N d) (i : Int) : cg (cs.take d) (canP P N d) (d : Int) i = cg cs P N i := by
  rcases t with ⟨rfl, b⟩ | ⟨⟨l, hl, hn⟩, t, _⟩
  · rw [cg_bare b, cg_out (fun z => by have := z.1; omega)]
  · have f : Full cs N := by
      rcases h with f | rfl
      · exact f
      · cases hl
    have f2 := take_full f t
    obtain ⟨r, q, hr, e, c⟩ := cg_split (P := canP P N d) f2 i
    rw [c, e]
    have hr2 : r < cs.length := by rw [List.length_take] at hr; omega
    have a := seq_iter (S := cg cs P N) t.go q (r : Int)
    rw [a, cg_nat f hr2]
    have hd : d ≠ 0 := by have := t.pos; omega
    unfold canP
    rw [if_neg hd, List.getElem_take]
theorem meas_full {F : Fv} (h : F.Meas) (hl : F.cs.length = F.cn) : Full F.cs F.N ∨ F.cs = [] := by
  rcases h with ⟨_, _, h⟩ | ⟨h0, h1, _⟩
  · exact .inr (List.eq_nil_of_length_eq_zero (by omega))
  · exact .inl ⟨by omega, by omega⟩
/-- The exceptions that are not as the core would have it. -/
def canOs (F : Fv) : List Gr := F.os.filter (fun o => !(decide (o.2 = cg F.cs F.P F.N o.1)))
/-- G is the canonical form of F. -/
structure IsCan (F G : Fv) : Prop where
  turn : IsTurn F.cs F.P F.N G.cn
  N : G.N = G.cn
  P : G.P = canP F.P F.N G.cn
  cs : G.cs = F.cs.take G.cn
  os : G.os = canOs F
theorem exc_filter {os : List Gr} (h : os.Pairwise (fun a b => a.1 < b.1)) (p : Gr → Bool) (i : Int) : exc (os.filter p) i = match exc os i with
    | some l => if p (i, l) then some l else none
    | none => none := by
  cases e : exc os i with
  | none =>
    rw [exc_none] at e
    exact exc_none.2 (fun o ho => e o (List.mem_filter.1 ho).1)
  | some l =>
    obtain ⟨n, hn, h1, h2⟩ := exc_some e
    have hm : os[n] ∈ os := List.getElem_mem hn
    have ho : os[n] = (i, l) := Prod.ext h1 h2
    show exc (os.filter p) i = if p (i, l) then some l else none
    by_cases q : p (i, l) = true
    · rw [if_pos q]
      have hf : os[n] ∈ os.filter p := List.mem_filter.2 ⟨hm, by rw [ho]; exact q⟩
      obtain ⟨m, hm2, e2⟩ := List.getElem_of_mem hf
      have := exc_at (h.filter p) hm2 (i := i) (by rw [e2]; exact h1)
      rw [this, e2, h2]
    · rw [if_neg q]
      refine exc_none.2 (fun o hf e3 => ?_)
      obtain ⟨k, hk, e4⟩ := List.getElem_of_mem (List.mem_filter.1 hf).1
      have : os[k] = os[n] := by
        rcases Nat.lt_trichotomy k n with z | z | z
        · have := inc_at h k n hk hn z; rw [e4, e3, h1] at this; omega
        · subst z; rfl
        · have := inc_at h n k hn hk z; rw [e4, e3, h1] at this; omega
      have h5 := (List.mem_filter.1 hf).2
      rw [← e4, this, ho] at h5
      exact q h5
theorem can_gr {F G : Fv} (c : IsCan F G) (hf : Full F.cs F.N ∨ F.cs = []) (ho : F.os.Pairwise (fun a b => a.1 < b.1)) (i : Int) : gr G i = gr F i := by
  have hc : cg G.cs G.P G.N i = cg F.cs F.P F.N i := by rw [c.cs, c.P, c.N]; exact can_core hf c.turn i
  unfold gr
  rw [c.os, hc]
  unfold canOs
  rw [exc_filter ho]
  cases e : exc F.os i with
  | none => rfl
  | some l =>
    by_cases q : l = cg F.cs F.P F.N i
    · simp [q]
    · simp [q]
theorem nr_gr {F G : Fv} (h : ∀ i, gr G i = gr F i) {x st j : Int} {ok : Bool} (n : Nr G x st j ok) : Nr F x st j ok := by
  refine ⟨fun e => ?_, fun e k k1 => by rw [← h]; exact n.no e k k1, n.low, n.high⟩
  obtain ⟨a, b, d⟩ := n.yes e
  exact ⟨a, by rw [← h]; exact b, fun k k1 k2 => by rw [← h]; exact d k k1 k2⟩
theorem canP_mul {P N : Int} {d : Nat} {cs : List (List Sp)} (t : TurnOk cs P N d) : N * canP P N d = P * d := by
  have := t.pos
  unfold canP
  rw [if_neg (by omega)]
  exact Int.mul_ediv_cancel' t.per
/-- The canonical form is right. -/
theorem can_rt {F G : Fv} (c : IsCan F G) (h : F.Rt) (hl : F.cs.length = F.cn) : G.Rt := by
  have hf := meas_full h.meas hl
  have hg := can_gr c hf h.odd.inc
  have hos : ∀ o ∈ G.os, o ∈ F.os := fun o ho => by rw [c.os] at ho; exact (List.mem_filter.1 ho).1
  refine ⟨?_, fun l q => h.core l (by rw [c.cs] at q; exact List.mem_of_mem_take q), ⟨fun o ho => h.odd.good o (hos o ho), by rw [c.os]; exact h.odd.inc.filter _⟩, ⟨?_, ?_⟩, fun i => ⟨?_, ?_⟩⟩
  · rcases c.turn with ⟨d0, _⟩ | ⟨⟨l, hl2, _⟩, t, _⟩
    · left
      refine ⟨by rw [c.N, d0]; rfl, by rw [c.P, d0]; rfl, d0⟩
    · right
      have f : Full F.cs F.N := by
        rcases hf with f | e
        · exact f
        · rw [e] at hl2; cases hl2
      have hle := turn_le f t
      have hp := t.pos
      have hm := canP_mul t
      obtain ⟨P1, P2⟩ : 1 ≤ F.P ∧ F.P ≤ 1099511627776 := by
        rcases h.meas with ⟨a, _, _⟩ | ⟨_, _, a, b⟩
        · have := f.1; omega
        · exact ⟨a, b⟩
      have hN := f.1
      have hdN : (G.cn : Int) ≤ F.N := by have := f.2; omega
      refine ⟨by rw [c.N]; omega, c.N, ?_, ?_⟩
      · rw [c.P]
        have h1 : 0 < F.P * (G.cn : Int) := Int.mul_pos (by omega) (by omega)
        rw [← hm] at h1
        have := Int.pos_of_mul_pos_right h1 (by omega)
        omega
      · rw [c.P]
        have h1 : F.P * (G.cn : Int) ≤ F.P * F.N := Int.mul_le_mul_of_nonneg_left hdN (by omega)
        rw [← hm, Int.mul_comm F.P] at h1
        have := Int.le_of_mul_le_mul_left h1 hN
        omega
  · rw [c.cs]; exact h.ris.order.sublist (List.take_sublist _ _)
  · intro a ha b hb s hs u hu
    rcases c.turn with ⟨d0, _⟩ | ⟨⟨l, hl2, _⟩, t, _⟩
    · rw [c.cs, d0] at ha; simp at ha
    · have f : Full F.cs F.N := by
        rcases hf with f | e
        · exact f
        · rw [e] at hl2; cases hl2
      rw [c.cs] at ha hb
      obtain ⟨i, hi, rfl⟩ := List.getElem_of_mem ha
      obtain ⟨j, hj, rfl⟩ := List.getElem_of_mem hb
      have hi2 : i < F.cs.length ∧ i < G.cn := by rw [List.length_take] at hi; omega
      have hj2 : j < F.cs.length ∧ j < G.cn := by rw [List.length_take] at hj; omega
      rw [List.getElem_take] at hs hu
      have q := core_order h hl (i := (i : Int)) (k := (j : Int) + G.cn) (by omega)
      rw [t.go, cg_nat f hi2.1, cg_nat f hj2.1] at q
      have := q s hs (u.1 + F.P * (G.cn : Int) / F.N, u.2 + F.P * (G.cn : Int) / F.N) (List.mem_map.2 ⟨u, hu, rfl⟩)
      rw [c.P]
      unfold canP
      rw [if_neg (by have := t.pos; omega)]
      exact this
  · intro hi j hn
    obtain ⟨n, hn2, e⟩ := List.getElem_of_mem (hos _ (List.getElem_mem hi))
    have := (h.fit n).1 hn2 j (by rw [e]; exact nr_gr hg hn)
    rw [e, ← hg] at this
    exact this
  · intro hi j hn
    obtain ⟨n, hn2, e⟩ := List.getElem_of_mem (hos _ (List.getElem_mem hi))
    have := (h.fit n).2 hn2 j (by rw [e]; exact nr_gr hg hn)
    rw [e, ← hg] at this
    exact this
/-- The canonical form of a canonical form is itself. -/
theorem can_can {F G : Fv} (c : IsCan F G) (hf : Full F.cs F.N ∨ F.cs = []) : IsCan G G := by
  have hS : ∀ i, cg G.cs G.P G.N i = cg F.cs F.P F.N i := fun i => by rw [c.cs, c.P, c.N]; exact can_core hf c.turn i
  have hos : canOs G = G.os := by
    unfold canOs
    rw [List.filter_eq_self]
    intro o ho
    rw [hS]
    have q := ho
    rw [c.os] at q
    exact (List.mem_filter.1 q).2
  rcases c.turn with ⟨d0, hb⟩ | ⟨⟨l, hl2, hne⟩, t, hmin⟩
  · have hcs : G.cs = [] := by rw [c.cs, d0]; rfl
    refine ⟨.inl ⟨d0, fun l hl => (by rw [hcs] at hl; cases hl)⟩, c.N, ?_, by rw [hcs]; simp, hos.symm⟩
    rw [c.P, d0]; rfl
  · have f : Full F.cs F.N := by
      rcases hf with f | e
      · exact f
      · rw [e] at hl2; cases hl2
    have f2 : Full G.cs G.N := by rw [c.cs, c.N]; exact take_full f t
    have hlen : G.cs.length = G.cn := by have := f2.2; rw [c.N] at this; omega
    have hp := t.pos
    have hm := canP_mul t
    rw [← c.P] at hm
    have ta := turn_all (P := G.P) f2
    rw [hlen] at ta
    refine ⟨.inr ⟨?_, ta, fun e he => hmin e ⟨he.pos, ?_, ?_, fun i => ?_⟩⟩, c.N, ?_, by rw [← hlen]; exact (List.take_length).symm, hos.symm⟩
    · obtain ⟨i, hi, rfl⟩ := List.getElem_of_mem hl2
      have e1 := hS (i : Int)
      rw [cg_nat f hi] at e1
      obtain ⟨r, q, hr, _, e2⟩ := cg_split (P := G.P) f2 (i : Int)
      rw [e2] at e1
      exact ⟨_, List.getElem_mem hr, fun z => by rw [z] at e1; exact hne e1.symm⟩
    · have a := he.div
      rw [c.N] at a
      exact Int.dvd_trans a t.div
    · obtain ⟨m, hm2⟩ := he.per
      rw [c.N] at hm2
      refine ⟨m, ?_⟩
      have : F.P * (e : Int) * (G.cn : Int) = F.N * m * (G.cn : Int) := by
        calc F.P * (e : Int) * (G.cn : Int) = F.P * (G.cn : Int) * e := by rw [Int.mul_assoc, Int.mul_comm (e : Int), ← Int.mul_assoc]
          _ = F.N * G.P * e := by rw [hm]
          _ = F.N * (G.P * e) := Int.mul_assoc ..
          _ = F.N * ((G.cn : Int) * m) := by rw [hm2]
          _ = F.N * m * (G.cn : Int) := by rw [Int.mul_comm (G.cn : Int), ← Int.mul_assoc]
      exact Int.eq_of_mul_eq_mul_right (by omega) this
    · obtain ⟨m, hm2⟩ := he.per
      have g := he.go i
      rw [hS, hS] at g
      rw [g]
      congr 1
      rw [hm2, Int.mul_ediv_cancel_left _ (by have := f2.1; omega)]
      rw [c.N] at hm2
      have : F.P * (e : Int) * (G.cn : Int) = F.N * m * (G.cn : Int) := by
        calc F.P * (e : Int) * (G.cn : Int) = F.P * (G.cn : Int) * e := by rw [Int.mul_assoc, Int.mul_comm (e : Int), ← Int.mul_assoc]
          _ = F.N * G.P * e := by rw [hm]
          _ = F.N * (G.P * e) := Int.mul_assoc ..
          _ = F.N * ((G.cn : Int) * m) := by rw [hm2]
          _ = F.N * m * (G.cn : Int) := by rw [Int.mul_comm (G.cn : Int), ← Int.mul_assoc]
      have e2 := Int.eq_of_mul_eq_mul_right (by omega) this
      rw [e2, Int.mul_ediv_cancel_left _ (by have := f.1; omega)]
    · unfold canP
      rw [if_neg (by omega), c.N, Int.mul_ediv_cancel _ (by omega)]
/-- A sequence goes on by d sets, p ticks later. -/
def Per (S : Int → List Sp) (d : Nat) (p : Int) : Prop := 0 < d ∧ ∀ i, S (i + d) = moved (S i) p
theorem per_least {S : Int → List Sp} {n : Nat} {q : Int} (h : Per S n q) : ∃ d p, Per S d p ∧ ∀ e r, Per S e r → d ≤ e := by
  have key : ∀ m, (∃ d p, Per S d p ∧ d ≤ m) → ∃ d p, Per S d p ∧ ∀ e r, Per S e r → d ≤ e := by
    intro m
    induction m with
    | zero => rintro ⟨d, p, a, b⟩; have := a.1; omega
    | succ m ih =>
      rintro ⟨d, p, a, b⟩
      by_cases z : ∃ d p, Per S d p ∧ d ≤ m
      · exact ih z
      · refine ⟨d, p, a, fun e r he => ?_⟩
        rcases Nat.lt_or_ge m e with y | y
        · omega
        · exact absurd ⟨e, r, he, y⟩ z
  exact key n ⟨n, q, h, Nat.le_refl _⟩
theorem per_div {S : Int → List Sp} {d n : Nat} {p q : Int} (h : Per S d p) (hmin : ∀ e r, Per S e r → d ≤ e) (hn : Per S n q) (hne : ∃ i, S i ≠ []) : ∃ m : Int, (n : Int) = d * m ∧ q = p * m := by
  have hd := h.1
  obtain ⟨r, hr⟩ : ∃ r, n % d = r := ⟨_, rfl⟩
  obtain ⟨m, hm⟩ : ∃ m, n / d = m := ⟨_, rfl⟩
  have e : n = d * m + r := by rw [← hr, ← hm]; exact (Nat.div_add_mod n d).symm
  have hlt : r < d := by rw [← hr]; exact Nat.mod_lt _ hd
  have eZ : (n : Int) = (d : Int) * (m : Int) + (r : Int) := by rw [e]; simp
  have go : ∀ i, S (i + r) = moved (S i) (q - p * m) := by
    intro i
    have a := hn.2 i
    have b := seq_iter (S := S) h.2 (m : Int) (i + r)
    rw [show i + (r : Int) + (d : Int) * (m : Int) = i + n by omega, a] at b
    have c := congrArg (fun x => moved x (-(p * (m : Int)))) b
    simp only [moved_moved] at c
    rw [show p * (m : Int) + -(p * (m : Int)) = 0 by omega, moved_zero] at c
    rw [← c]
    congr 1
  by_cases z : r = 0
  · refine ⟨m, by rw [eZ, z]; simp, ?_⟩
    obtain ⟨i, hi⟩ := hne
    have g := go i
    rw [z, show i + ((0 : Nat) : Int) = i by simp] at g
    have : moved (S i) 0 = moved (S i) (q - p * m) := by rw [moved_zero]; exact g
    have := moved_far hi this
    omega
  · have := hmin r _ ⟨by omega, go⟩
    omega
/-- The least turn of a core is the least one of its sets. -/
theorem turn_per {cs : List (List Sp)} {P N : Int} {d d0 : Nat} {p0 : Int} (f : Full cs N) (t : TurnOk cs P N d) (hmin : ∀ e, TurnOk cs P N e → d ≤ e) (h0 : Per (cg cs P N) d0 p0) (hm0 : ∀ e r, Per (cg cs P N) e r → d0 ≤ e) (hne : ∃ i, cg cs P N i ≠ []) : d = d0 ∧ canP P N d = p0 := by
  have hN := f.1
  have hn : Per (cg cs P N) cs.length P := ⟨by have := f.2; omega, fun i => by have := cg_next (P := P) f (k := i); rw [f.2] at this ⊢; exact this⟩
  obtain ⟨m, e1, e2⟩ := per_div h0 hm0 hn hne
  have hd0 := h0.1
  have eN : N = (d0 : Int) * m := by rw [← e1]; exact f.2
  have eP : P * (d0 : Int) = N * p0 := by rw [e2, eN, Int.mul_comm p0 m, Int.mul_comm (d0 : Int) m, Int.mul_assoc, Int.mul_assoc, Int.mul_comm p0]
  have t0 : TurnOk cs P N d0 := ⟨hd0, ⟨m, eN⟩, ⟨p0, eP⟩, fun i => by rw [eP, Int.mul_ediv_cancel_left _ (by omega)]; exact h0.2 i⟩
  have a := hmin d0 t0
  have b := hm0 d _ ⟨t.pos, t.go⟩
  have e : d = d0 := by omega
  refine ⟨e, ?_⟩
  unfold canP
  rw [if_neg (by have := t.pos; omega), e, eP, Int.mul_ediv_cancel_left _ (by omega)]
/-- Two cores with the same sets have the same canonical core. -/
theorem core_same {F1 F2 G1 G2 : Fv} (c1 : IsCan F1 G1) (c2 : IsCan F2 G2) (f1 : Full F1.cs F1.N ∨ F1.cs = []) (f2 : Full F2.cs F2.N ∨ F2.cs = []) (h : ∀ i, cg F1.cs F1.P F1.N i = cg F2.cs F2.P F2.N i) : G1.P = G2.P ∧ G1.N = G2.N ∧ G1.cs = G2.cs := by
  have full : ∀ {F G : Fv}, IsCan F G → (Full F.cs F.N ∨ F.cs = []) → (∃ l ∈ F.cs, l ≠ []) → Full F.cs F.N := by
    intro F G _ f he
    rcases f with f | e
    · exact f
    · obtain ⟨l, hl, _⟩ := he; rw [e] at hl; cases hl
  have some_ : ∀ {F : Fv}, Full F.cs F.N → (∃ l ∈ F.cs, l ≠ []) → ∃ i, cg F.cs F.P F.N i ≠ [] := by
    intro F f ⟨l, hl, hn⟩
    obtain ⟨i, hi, rfl⟩ := List.getElem_of_mem hl
    exact ⟨i, by rw [cg_nat f hi]; exact hn⟩
  rcases c1.turn with ⟨d1, b1⟩ | ⟨n1, t1, m1⟩
  · rcases c2.turn with ⟨d2, b2⟩ | ⟨n2, t2, m2⟩
    · exact ⟨by rw [c1.P, c2.P, d1, d2]; rfl, by rw [c1.N, c2.N, d1, d2], by rw [c1.cs, c2.cs, d1, d2]; rfl⟩
    · obtain ⟨i, hi⟩ := some_ (full c2 f2 n2) n2
      rw [← h i, cg_bare b1] at hi
      exact absurd rfl hi
  · rcases c2.turn with ⟨d2, b2⟩ | ⟨n2, t2, m2⟩
    · obtain ⟨i, hi⟩ := some_ (full c1 f1 n1) n1
      rw [h i, cg_bare b2] at hi
      exact absurd rfl hi
    · have g1 := full c1 f1 n1
      have g2 := full c2 f2 n2
      have s1 := some_ g1 n1
      have s2 := some_ g2 n2
      have hn : Per (cg F1.cs F1.P F1.N) G1.cn _ := ⟨t1.pos, t1.go⟩
      obtain ⟨d0, p0, h0, hm0⟩ := per_least hn
      have e1 := turn_per g1 t1 m1 h0 hm0 s1
      have hS : cg F1.cs F1.P F1.N = cg F2.cs F2.P F2.N := funext h
      have e2 := turn_per g2 t2 m2 (by rw [← hS]; exact h0) (by rw [← hS]; exact hm0) s2
      have ed : G1.cn = G2.cn := by omega
      refine ⟨by rw [c1.P, c2.P, e1.2, e2.2], by rw [c1.N, c2.N, ed], ?_⟩
      rw [c1.cs, c2.cs, ed]
      have l1 := turn_le g1 t1
      have l2 := turn_le g2 t2
      apply List.ext_getElem
      · rw [List.length_take, List.length_take]; omega
      · intro i h1 h2
        rw [List.getElem_take, List.getElem_take]
        have a1 : i < F1.cs.length := by rw [List.length_take] at h1; omega
        have a2 : i < F2.cs.length := by rw [List.length_take] at h2; omega
        have := h (i : Int)
        rwa [cg_nat g1 a1, cg_nat g2 a2] at this
theorem sorted_same : ∀ {l k : List Gr}, l.Pairwise (fun a b => a.1 < b.1) → k.Pairwise (fun a b => a.1 < b.1) → (∀ o, o ∈ l ↔ o ∈ k) → l = k
  | [], k, _, _, h => by
    cases k with
    | nil => rfl
    | cons o r => exact absurd ((h o).2 (List.mem_cons_self ..)) (by simp)
  | o :: r, [], _, _, h => absurd ((h o).1 (List.mem_cons_self ..)) (by simp)
  | o :: r, u :: s, hl, hk, h => by
    rw [List.pairwise_cons] at hl hk
    have e : o = u := by
      rcases List.mem_cons.1 ((h o).1 (List.mem_cons_self ..)) with q | q
      · exact q
      · rcases List.mem_cons.1 ((h u).2 (List.mem_cons_self ..)) with q2 | q2
        · exact q2.symm
        · have := hk.1 o q; have := hl.1 u q2; omega
    subst e
    rw [sorted_same hl.2 hk.2 (fun x => ?_)]
    constructor
    · intro hx
      rcases List.mem_cons.1 ((h x).1 (List.mem_cons_of_mem _ hx)) with q | q
      · subst q; have := hl.1 x hx; omega
      · exact q
    · intro hx
      rcases List.mem_cons.1 ((h x).2 (List.mem_cons_of_mem _ hx)) with q | q
      · subst q; have := hk.1 x hx; omega
      · exact q
theorem mem_canOs {F : Fv} (h : F.os.Pairwise (fun a b => a.1 < b.1)) (o : Gr) : o ∈ canOs F ↔ gr F o.1 = o.2 ∧ o.2 ≠ cg F.cs F.P F.N o.1 := by
  unfold canOs
  rw [List.mem_filter]
  constructor
  · rintro ⟨a, b⟩
    obtain ⟨n, hn, rfl⟩ := List.getElem_of_mem a
    exact ⟨gr_at h n hn, by simpa using b⟩
  · rintro ⟨a, b⟩
    refine ⟨?_, by simpa using b⟩
    cases e : exc F.os o.1 with
    | none =>
      rw [gr_free e] at a
      exact absurd a.symm b
    | some l =>
      obtain ⟨n, hn, h1, h2⟩ := exc_some e
      have : gr F o.1 = l := by unfold gr; rw [e]
      have ho : F.os[n] = o := Prod.ext h1 (by rw [h2, ← this]; exact a)
      rw [← ho]; exact List.getElem_mem hn
/-- Two forms with the same sets have the same canonical form. -/
theorem can_unique {F1 F2 G1 G2 : Fv} (c1 : IsCan F1 G1) (c2 : IsCan F2 G2) (f1 : Full F1.cs F1.N ∨ F1.cs = []) (f2 : Full F2.cs F2.N ∨ F2.cs = []) (o1 : F1.os.Pairwise (fun a b => a.1 < b.1)) (o2 : F2.os.Pairwise (fun a b => a.1 < b.1)) (h : ∀ i, cg F1.cs F1.P F1.N i = cg F2.cs F2.P F2.N i) (hx : ∀ i, (exc F1.os i ≠ none ∨ exc F2.os i ≠ none) → gr F1 i = gr F2 i) : G1.P = G2.P ∧ G1.N = G2.N ∧ G1.cs = G2.cs ∧ G1.os = G2.os := by
  obtain ⟨a, b, c⟩ := core_same c1 c2 f1 f2 h
  refine ⟨a, b, c, ?_⟩
  have hg : ∀ i, gr F1 i = gr F2 i := fun i => by
    by_cases q : exc F1.os i ≠ none ∨ exc F2.os i ≠ none
    · exact hx i q
    · have q1 : exc F1.os i = none := Classical.byContradiction (fun z => q (.inl z))
      have q2 : exc F2.os i = none := Classical.byContradiction (fun z => q (.inr z))
      rw [gr_free q1, gr_free q2]; exact h i
  rw [c1.os, c2.os]
  refine sorted_same (o1.filter _) (o2.filter _) (fun o => ?_)
  show o ∈ canOs F1 ↔ o ∈ canOs F2
  rw [mem_canOs o1, mem_canOs o2, hg, h]
/-- The other way about. -/
theorem can_same {F1 F2 G1 G2 : Fv} (c1 : IsCan F1 G1) (c2 : IsCan F2 G2) (f1 : Full F1.cs F1.N ∨ F1.cs = []) (f2 : Full F2.cs F2.N ∨ F2.cs = []) (o1 : F1.os.Pairwise (fun a b => a.1 < b.1)) (o2 : F2.os.Pairwise (fun a b => a.1 < b.1)) (e : G1.P = G2.P ∧ G1.N = G2.N ∧ G1.cs = G2.cs ∧ G1.os = G2.os) (i : Int) : gr F1 i = gr F2 i := by
  rw [← can_gr c1 f1 o1, ← can_gr c2 f2 o2]
  obtain ⟨a, b, c, d⟩ := e
  unfold gr
  rw [a, b, c, d]
/-- Cores that are alike in a window that is long enough are alike everywhere. -/
theorem core_window {c1 c2 : List (List Sp)} {P1 N1 P2 N2 : Int} (f1 : Full c1 N1 ∨ c1 = []) (f2 : Full c2 N2 ∨ c2 = []) (a : Int) (L : Int) (hL : N1 * N2 + N1 + N2 ≤ L) (n1 : 0 ≤ N1) (n2 : 0 ≤ N2) (h : ∀ i, a ≤ i → i < a + L → cg c1 P1 N1 i = cg c2 P2 N2 i) : ∀ i, cg c1 P1 N1 i = cg c2 P2 N2 i := by
  have nf : ∀ {c : List (List Sp)} {P N : Int}, (Full c N ∨ c = []) → ¬ Full c N → ∀ i, cg c P N i = [] := fun _ q i => cg_out q
  -- a place of the window, for any index
  have place : ∀ (N i : Int), 0 < N → ∃ q j, i = j + N * q ∧ a ≤ j ∧ j < a + N := by
    intro N i hN
    obtain ⟨h0, h1⟩ := fmod_nat (i - a) hN
    exact ⟨(i - a).fdiv N, a + (i - a).fmod N, by have := fmod_eq (i - a) N; omega, by omega, by omega⟩
  have empty : ∀ {c c' : List (List Sp)} {P N P' N' : Int}, Full c N → N ≤ L → (∀ i, a ≤ i → i < a + L → cg c P N i = cg c' P' N' i) → (∀ i, cg c' P' N' i = []) → ∀ i, cg c P N i = [] := by
    intro c c' P N P' N' f hN hh he i
    obtain ⟨q, j, e, j1, j2⟩ := place N i f.1
    rw [e, cg_nexts f, hh j j1 (by omega), he]; rfl
  have hm : 0 ≤ N1 * N2 := Int.mul_nonneg n1 n2
  by_cases g1 : Full c1 N1
  · by_cases g2 : Full c2 N2
    · by_cases hn : ∃ i, cg c1 P1 N1 i ≠ []
      · obtain ⟨i, hi⟩ := hn
        obtain ⟨q, j, e, j1, j2⟩ := place N1 i g1.1
        rw [e, cg_nexts g1, moved_ne] at hi
        have s1 := cg_nexts (P := P1) g1 N2 j
        have s2 := cg_nexts (P := P2) g2 N1 j
        have w1 := h j j1 (by omega)
        have w2 := h (j + N1 * N2) (by omega) (by omega)
        rw [Int.mul_comm N2 N1] at s2
        rw [s1, s2, ← w1] at w2
        have eQ : P1 * N2 = P2 * N1 := moved_far hi w2
        intro k
        have hM : 0 < N1 * N2 := Int.mul_pos g1.1 g2.1
        obtain ⟨q, j, e, j1, j2⟩ := place (N1 * N2) k hM
        have a1 := cg_nexts (P := P1) g1 (N2 * q) j
        have a2 := cg_nexts (P := P2) g2 (N1 * q) j
        rw [← Int.mul_assoc] at a1 a2
        rw [Int.mul_comm N2 N1] at a2
        rw [e, a1, a2, h j j1 (by omega), ← Int.mul_assoc, ← Int.mul_assoc, eQ]
      · have e1 : ∀ i, cg c1 P1 N1 i = [] := fun i => Classical.byContradiction (fun z => hn ⟨i, z⟩)
        have e2 := empty g2 (by omega) (fun i i1 i2 => (h i i1 i2).symm) e1
        intro i; rw [e1, e2]
    · have e2 := nf (P := P2) f2 g2
      have e1 := empty g1 (by omega) h e2
      intro i; rw [e1, e2]
  · have e1 := nf (P := P1) f1 g1
    by_cases g2 : Full c2 N2
    · have e2 := empty g2 (by omega) (fun i i1 i2 => (h i i1 i2).symm) e1
      intro i; rw [e1, e2]
    · intro i; rw [e1, nf (P := P2) f2 g2]

/-- The sets of a core, shifted. -/
def shCs (cs : List (List Sp)) (P N m : Int) : List (List Sp) := (List.range cs.length).map (fun j : Nat => cg cs P N ((j : Int) - m))
def shOs (os : List Gr) (m : Int) : List Gr := os.map (fun o => (o.1 + m, o.2))
theorem shCs_len (cs : List (List Sp)) (P N m : Int) : (shCs cs P N m).length = cs.length := by simp [shCs]
theorem sh_full {cs : List (List Sp)} {P N m : Int} (h : Full cs N) : Full (shCs cs P N m) N := ⟨h.1, by rw [shCs_len]; exact h.2⟩
theorem cg_sh {cs : List (List Sp)} {P N m : Int} (h : Full cs N ∨ cs = []) (x : Int) : cg (shCs cs P N m) P N x = cg cs P N (x - m) := by
  rcases h with h | rfl
  · obtain ⟨r, q, hr, e, e2⟩ := cg_split (P := P) (sh_full (m := m) (P := P) h) x
    have hr' : r < cs.length := by rw [shCs_len] at hr; exact hr
    have e3 : (shCs cs P N m)[r] = cg cs P N ((r : Int) - m) := by simp [shCs]
    rw [e2, e3, ← cg_nexts (P := P) h q]
    congr 1
    omega
  · have a : ¬ Full ([] : List (List Sp)) N := fun z => by have h1 := z.1; have h2 := z.2; simp at h2; omega
    rw [cg_out a, show shCs [] P N m = [] from rfl, cg_out a]
theorem exc_sh (os : List Gr) (m x : Int) : exc (shOs os m) x = exc os (x - m) := by
  unfold exc shOs
  induction os with
  | nil => rfl
  | cons o r ih =>
    rw [List.map_cons, List.find?_cons, List.find?_cons]
    have e : ((o.1 + m, o.2) : Gr).1 == x ↔ o.1 == x - m := by simp; omega
    by_cases q : (o.1 == x - m) = true
    · rw [show (((o.1 + m, o.2) : Gr).1 == x) = true from e.2 q, q]; rfl
    · rw [show (((o.1 + m, o.2) : Gr).1 == x) = false by simpa using fun z => q (e.1 (by simpa using z)), show (o.1 == x - m) = false by simpa using q]
      exact ih
/-- A form, shifted. -/
def Sh (F G : Fv) (m : Int) : Prop := G.P = F.P ∧ G.N = F.N ∧ G.cs = shCs F.cs F.P F.N m ∧ G.os = shOs F.os m
theorem gr_sh {F G : Fv} {m : Int} (h : Full F.cs F.N ∨ F.cs = []) (s : Sh F G m) (x : Int) : gr G x = gr F (x - m) := by
  obtain ⟨s1, s2, s3, s4⟩ := s
  unfold gr
  rw [s1, s2, s3, s4, exc_sh, cg_sh h]
theorem sh_pair {os : List Gr} (h : os.Pairwise (fun a b => a.1 < b.1)) (m : Int) : (shOs os m).Pairwise (fun a b => a.1 < b.1) := by
  unfold shOs
  rw [List.pairwise_map]
  exact h.imp (fun z => by dsimp only; omega)

theorem rt_app : ∀ (a b : List Sp) (lo : Int), Rt lo (a ++ b) ↔ Rt lo a ∧ Rt (nxt lo a) b
  | [], b, lo => by simp [Rt, nxt]
  | x :: r, b, lo => by
    rw [List.cons_append]
    simp only [Rt, nxt, rt_app r]
    constructor
    · rintro ⟨a, b, c, d, e⟩; exact ⟨⟨a, b, c, d⟩, e⟩
    · rintro ⟨⟨a, b, c, d⟩, e⟩; exact ⟨a, b, c, d, e⟩
/-- A set behind what was collected: the last span may grow by the first one. -/
def glue (a l : List Sp) : List Sp × List Sp := match a.getLast?, l with
  | some x, s :: r => if x.2 + 1 = s.1 then (a.dropLast ++ [(x.1, s.2)], r) else (a, l)
  | _, _ => (a, l)
theorem glue_nil (a : List Sp) : glue a [] = (a, []) := by unfold glue; split <;> simp_all
theorem glue_bare (l : List Sp) : glue [] l = ([], l) := by unfold glue; simp
theorem glue_snoc (a0 : List Sp) (x s : Sp) (r : List Sp) : glue (a0 ++ [x]) (s :: r) = if x.2 + 1 = s.1 then (a0 ++ [(x.1, s.2)], r) else (a0 ++ [x], s :: r) := by
  unfold glue
  simp
def colS (room : Int) (a l : List Sp) : List Sp := if ((glue a l).1.length : Int) ≤ room then (glue a l).1 ++ (glue a l).2 else (glue a l).1
def colF (room : Int) (ls : List (List Sp)) : List Sp := ls.foldl (colS room) []
theorem colF_snoc (room : Int) (ls : List (List Sp)) (l : List Sp) : colF room (ls ++ [l]) = colS room (colF room ls) l := by simp [colF]
theorem glue_good {a l : List Sp} (ga : Good a) (gl : Good l) (h : Ahd a l) : Good ((glue a l).1 ++ (glue a l).2) ∧ ∀ t, mem ((glue a l).1 ++ (glue a l).2) t ↔ mem a t ∨ mem l t := by
  cases l with
  | nil => rw [glue_nil]; simp only [List.append_nil]; exact ⟨ga, fun t => by simp [mem_nil]⟩
  | cons s r =>
    rcases List.eq_nil_or_concat a with rfl | ⟨a0, x, rfl⟩
    · rw [glue_bare]; exact ⟨gl, fun t => by simp [mem_nil]⟩
    · rw [List.concat_eq_append] at ga h ⊢
      rw [glue_snoc]
      obtain ⟨g1, g2, g3, g4⟩ := (rt_snoc a0 _ x).1 ga
      obtain ⟨k1, k2, k3, k4⟩ := gl
      have hx : x.2 < s.1 := h x (by simp) s List.mem_cons_self
      by_cases q : x.2 + 1 = s.1
      · rw [if_pos q]
        refine ⟨(rt_app _ _ _).2 ⟨(rt_snoc a0 _ (x.1, s.2)).2 ⟨g1, g2, by dsimp only; omega, k3⟩, by rw [nxt_snoc]; exact k4⟩, fun t => ?_⟩
        simp only [mem_append, mem_cons, mem_nil, or_false]
        constructor
        · rintro ((z | z) | z)
          · exact .inl (.inl z)
          · by_cases u : t ≤ x.2
            · exact .inl (.inr ⟨z.1, u⟩)
            · exact .inr (.inl ⟨by omega, z.2⟩)
          · exact .inr (.inr z)
        · rintro ((z | z) | (z | z))
          · exact .inl (.inl z)
          · exact .inl (.inr ⟨z.1, by omega⟩)
          · exact .inl (.inr ⟨by omega, z.2⟩)
          · exact .inr z
      · rw [if_neg q]
        refine ⟨(rt_app _ _ _).2 ⟨ga, by rw [nxt_snoc]; exact ⟨by omega, k2, k3, k4⟩⟩, fun t => mem_append _ _ t⟩
theorem glue_len (a l : List Sp) : (glue a l).1.length = a.length ∧ (glue a l).2.length ≤ l.length := by
  cases l with
  | nil => rw [glue_nil]; exact ⟨rfl, Nat.le_refl _⟩
  | cons s r =>
    rcases List.eq_nil_or_concat a with rfl | ⟨a0, x, rfl⟩
    · rw [glue_bare]; exact ⟨rfl, Nat.le_refl _⟩
    · rw [List.concat_eq_append, glue_snoc]
      split
      · exact ⟨by simp, by simp⟩
      · exact ⟨rfl, Nat.le_refl _⟩
theorem colS_len (room : Int) (a l : List Sp) : (colS room a l).length ≤ a.length + l.length ∧ a.length ≤ (colS room a l).length := by
  have h := glue_len a l
  unfold colS
  split
  · rw [List.length_append]; omega
  · omega
/-- All fits: what is collected has just the ticks of all sets. -/
theorem col_good (room : Int) : ∀ (ls : List (List Sp)) (a : List Sp), Good a → (∀ l ∈ ls, Good l) → (∀ l ∈ ls, Ahd a l) → ls.Pairwise Ahd → (a.length : Int) + ((ls.map List.length).sum : Nat) ≤ room →
    Good (ls.foldl (colS room) a) ∧ (∀ t, mem (ls.foldl (colS room) a) t ↔ mem a t ∨ ∃ l ∈ ls, mem l t) ∧ (ls.foldl (colS room) a).length ≤ a.length + (ls.map List.length).sum
  | [], a, ga, _, _, _, _ => ⟨ga, fun t => by simp, by simp⟩
  | l :: r, a, ga, gl, ha, hp, hr => by
    rw [List.map_cons, List.sum_cons] at hr ⊢
    have hg := glue_good ga (gl l List.mem_cons_self) (ha l List.mem_cons_self)
    have hl := glue_len a l
    have e : colS room a l = (glue a l).1 ++ (glue a l).2 := by unfold colS; rw [if_pos (by omega)]
    have hc := (colS_len room a l).1
    obtain ⟨p1, p2⟩ := List.pairwise_cons.1 hp
    have ih := col_good room r (colS room a l) (by rw [e]; exact hg.1) (fun x hx => gl x (List.mem_cons_of_mem _ hx)) (fun x hx => by
      intro s hs u hu
      have gs := hg.1
      rw [e] at hs
      -- the end of s is a tick of a or of l
      obtain ⟨i, hi, rfl⟩ := List.getElem_of_mem hs
      have gi := good_at gs i hi
      have hm : mem ((glue a l).1 ++ (glue a l).2) ((glue a l).1 ++ (glue a l).2)[i].2 := ⟨_, List.getElem_mem hi, gi.2.1, Int.le_refl _⟩
      rcases (hg.2 _).1 hm with ⟨v, hv, v1, v2⟩ | ⟨v, hv, v1, v2⟩
      · have := ha x (List.mem_cons_of_mem _ hx) v hv u hu; omega
      · have := p1 x hx v hv u hu; omega) p2 (by omega)
    refine ⟨ih.1, fun t => ?_, by show (r.foldl (colS room) (colS room a l)).length ≤ _; have := ih.2.2; omega⟩
    show mem (r.foldl (colS room) (colS room a l)) t ↔ _
    rw [ih.2.1 t, e, hg.2 t]
    simp only [List.mem_cons, exists_eq_or_imp, or_assoc]

theorem moved_app (a b : List Sp) (d : Int) : moved (a ++ b) d = moved a d ++ moved b d := by simp [moved]
theorem glue_moved (a l : List Sp) (d : Int) : glue (moved a d) (moved l d) = (moved (glue a l).1 d, moved (glue a l).2 d) := by
  cases l with
  | nil => rw [moved_nil, glue_nil, glue_nil]; rfl
  | cons s r =>
    rcases List.eq_nil_or_concat a with rfl | ⟨a0, x, rfl⟩
    · rw [moved_nil, glue_bare, glue_bare]; rfl
    · rw [List.concat_eq_append, moved_app, moved_cons, moved_cons, moved_nil, glue_snoc, glue_snoc]
      by_cases q : x.2 + 1 = s.1
      · rw [if_pos q, if_pos (by dsimp only; omega)]
        dsimp only
        rw [moved_app]; rfl
      · rw [if_neg q, if_neg (by dsimp only; omega)]
        dsimp only
        rw [moved_app]; rfl
theorem colS_moved (room : Int) (a l : List Sp) (d : Int) : colS room (moved a d) (moved l d) = moved (colS room a l) d := by
  unfold colS
  rw [glue_moved]
  dsimp only
  rw [moved_length]
  split
  · rw [moved_app]
  · rfl
theorem col_moved (room : Int) (d : Int) : ∀ (ls : List (List Sp)) (a : List Sp), (ls.map (fun l => moved l d)).foldl (colS room) (moved a d) = moved (ls.foldl (colS room) a) d
  | [], a => rfl
  | l :: r, a => by
    rw [List.map_cons, List.foldl_cons, List.foldl_cons, colS_moved]
    exact col_moved room d r _
/-- The sets of some indexes, one behind the other. -/
def many (S : Int → List Sp) (from_ : Int) (m : Nat) : List (List Sp) := (List.range m).map (fun j : Nat => S (from_ + (j : Int)))
theorem many_len (S : Int → List Sp) (from_ : Int) (m : Nat) : (many S from_ m).length = m := by simp [many]
def grpS (S : Int → List Sp) (m : Nat) (x : Int) : List Sp := colF 60000 (many S (x * (m : Int)) m)
def grpCs (cs : List (List Sp)) (P N : Int) (m n : Nat) : List (List Sp) := (List.range n).map (fun i : Nat => grpS (cg cs P N) m (i : Int))
theorem grpCs_len (cs : List (List Sp)) (P N : Int) (m n : Nat) : (grpCs cs P N m n).length = n := by simp [grpCs]
theorem many_moved {cs : List (List Sp)} {P N : Int} (h : Full cs N) (x q : Int) (m : Nat) : many (cg cs P N) (x + N * q) m = (many (cg cs P N) x m).map (fun l => moved l (P * q)) := by
  unfold many
  rw [List.map_map]
  refine List.map_congr_left (fun j _ => ?_)
  show cg cs P N (x + N * q + (j : Int)) = moved (cg cs P N (x + (j : Int))) (P * q)
  rw [← cg_nexts h q]
  congr 1
  omega
theorem cg_grp {cs : List (List Sp)} {P N : Int} (h : Full cs N) {m n : Nat} {k : Int} (hm : 0 < m) (hn : 0 < n) (e : (n : Int) * (m : Int) = N * k) (x : Int) : cg (grpCs cs P N m n) (P * k) (n : Int) x = grpS (cg cs P N) m x := by
  have hf : Full (grpCs cs P N m n) (n : Int) := ⟨by omega, by rw [grpCs_len]⟩
  obtain ⟨r, q, hr, e1, e2⟩ := cg_split (P := P * k) hf x
  have e3 : (grpCs cs P N m n)[r] = grpS (cg cs P N) m (r : Int) := by simp [grpCs]
  rw [e2, e3]
  have e4 : x * (m : Int) = (r : Int) * (m : Int) + N * (k * q) := by
    rw [e1, Int.add_mul, ← Int.mul_assoc, ← e, Int.mul_assoc, Int.mul_comm q, ← Int.mul_assoc]
  unfold grpS colF
  rw [e4, many_moved h, ← moved_nil (P * (k * q)), col_moved, moved_nil, Int.mul_assoc]

set_option maxHeartbeats 2000000 in
theorem raw_any (F : Fv) (i : Int) (w : World) (hF : F.At w) (ok : F.Ok) (hi1 : -9223372036854775808 ≤ i) (hi2 : i ≤ 9223372036854775807) :
    Calls Try.prog 32 #[F.v, .int .i64 i] w fun e w' => ∃ (v : Value) (k : Int), e = .returned (.tuple #[v, .int .i64 k]) ∧ Below w.heap.size w w' ∧ Hid ((Fit (cg F.cs F.P F.N i) ∧ k = 0 ∧ w'.ownsRow w.heap.size 50 2 v (cg F.cs F.P F.N i).length (spCells (cg F.cs F.P F.N i))) ∨ (¬ Fit (cg F.cs F.P F.N i) ∧ k = 20 ∧ v = .slice none 0 0)) := by
  obtain ⟨rp, hrp⟩ : ∃ r : Bool, r = true ↔ F.Rep := by classical exact ⟨decide _, decide_eq_true_iff⟩
  have HR := Lib.hid hrp
  have HK := Lib.hid ok
  clear hrp
  have cn1 := ok.cn
  clear ok
  obtain ⟨G, hG⟩ : ∃ g, cg F.cs F.P F.N i = g := ⟨_, rfl⟩
  rw [hG]
  have HG := Lib.hid hG
  clear hG
  obtain ⟨P, N, co, cn, cc, oo, on, oc, cs, os⟩ := F
  have LC : Hid (cs.length = cn) := Lib.hid hF.core.len
  have hmc : cn ≤ 9223372036854775807 := Nat.le_trans hF.core.le hF.core.top
  have cn1 : cn ≤ 1000000 := cn1
  have n1 : -9223372036854775808 ≤ N := hF.n1
  have n2 : N ≤ 9223372036854775807 := hF.n2
  have p1 : -9223372036854775808 ≤ P := hF.p1
  have p2 : P ≤ 9223372036854775807 := hF.p2
  have HR : Hid (rp = true ↔ 0 < N ∧ N = cn) := HR
  have HGc : Hid (G = cg cs P N i) := Lib.hid HG.out.symm
  obtain ⟨b, hb⟩ : ∃ b, w.heap.size = b := ⟨_, rfl⟩
  obtain ⟨w3, hw3⟩ : ∃ wb, w.alloc (.cells #[.int .i64 P, .int .i64 N, .slice co cn cc, .slice oo on oc] 25) = wb := ⟨_, rfl⟩
  have HBB : Hid (Fbox ⟨P, N, co, cn, cc, oo, on, oc, cs, os⟩ w w3 b) := Lib.hid (by rw [← hw3, ← hb]; exact fbox_new hF)
  clear hF
  show Calls Try.prog 32 #[.agg #[.int .i64 P, .int .i64 N, .slice co cn cc, .slice oo on oc], .int .i64 i] w _
  go_enter Try.func32, Try.ntmps32
  go_upto_region 1 with fail
  clear hw3 hb
  have e0 : w3.cell? ⟨b, 0, none⟩ = some (.int .i64 P) := HBB.out.c0
  have e1 : w3.cell? ⟨b, 1, none⟩ = some (.int .i64 N) := HBB.out.c1
  have e2 : w3.cell? ⟨b, 2, none⟩ = some (.slice co cn cc) := HBB.out.c2
  have e3 : w3.cell? ⟨b, 3, none⟩ = some (.slice oo on oc) := HBB.out.c3
  cases rp
  · have HE : Hid (G = []) := Lib.hid (by
      rw [HGc.out]; unfold cg
      rw [if_neg (by rw [LC.out]; exact fun h => by have := HR.out.2 h; cases this)])
    have HQ : Hid (¬ (0 < N ∧ N = cn)) := Lib.hid (fun h => by have := HR.out.2 h; cases this)
    by_cases z : N ≤ 0
    · go_wp2
      go_returns
      exact ⟨_, _, rfl, HBB.out.bw, Lib.hid (.inl ⟨(by rw [HE.out]; intro s hs; cases hs), rfl, by rw [HE.out]; exact World.ownsRow_nil _ _ _ _⟩)⟩
    · have z2 : (N != (cn : Int)) = true := by rw [bne_iff_ne]; exact fun q => HQ.out ⟨by omega, q⟩
      go_wp2
      go_returns
      exact ⟨_, _, rfl, HBB.out.bw, Lib.hid (.inl ⟨(by rw [HE.out]; intro s hs; cases hs), rfl, by rw [HE.out]; exact World.ownsRow_nil _ _ _ _⟩)⟩
  · obtain ⟨r1, rfl⟩ := HR.out.1 rfl
    have e0 : w3.cell? ⟨b, 0, none⟩ = some (.int .i64 P) := HBB.out.c0
    have e1 : w3.cell? ⟨b, 1, none⟩ = some (.int .i64 (cn : Int)) := HBB.out.c1
    have e2 : w3.cell? ⟨b, 2, none⟩ = some (.slice co cn cc) := HBB.out.c2
    have r3 : (cn : Int) ≠ 0 := by omega
    have r4 : ¬ (i = -9223372036854775808 ∧ (cn : Int) = -1) := by omega
    have HM := Lib.hid (fmod_nat i r1)
    have HD := Lib.hid (fdiv_in i r1 hi1 hi2)
    have HFL := Lib.hid (fun W => floor_ok i cn W hi1 hi2 n1 n2 r3 r4)
    obtain ⟨at_, hat⟩ : ∃ q, i.fmod (cn : Int) = q := ⟨_, rfl⟩
    obtain ⟨tn, htn⟩ : ∃ q, i.fdiv (cn : Int) = q := ⟨_, rfl⟩
    rw [hat] at HM HFL
    rw [htn] at HD HFL
    obtain ⟨a0, a1⟩ := HM.out
    obtain ⟨d0, d1⟩ := HD.out
    have HGd : Hid (G = moved (cs.getD at_.toNat []) (P * tn)) := Lib.hid (by
      rw [HGc.out]; unfold cg cset
      rw [if_pos ⟨r1, by rw [LC.out]⟩, hat, htn])
    clear hat htn HGc
    obtain ⟨k, rfl⟩ : ∃ k : Nat, at_ = (k : Int) := ⟨at_.toNat, by omega⟩
    have klt : k < cn := by omega
    obtain ⟨g, p, rfl, hc⟩ := (show CoAt w3 co cn cc cs from HBB.out.at_.core).here (by omega)
    have hkl : k < cs.length := by rw [LC.out]; exact klt
    obtain ⟨o, m, d, c1, c2⟩ := hc k hkl
    have HL : Hid (cs.getD ((k : Int)).toNat [] = cs[k]'hkl) := Lib.hid (by rw [Int.toNat_natCast, List.getD_eq_getElem?_getD, List.getElem?_eq_getElem hkl]; rfl)
    have m1 : m ≤ 1000000 := by rw [← c2.len]; exact HK.out.lenC _ (List.getElem_mem hkl)
    have HGO : Hid (Good (cs[k]'hkl)) := Lib.hid (HK.out.core _ (List.getElem_mem hkl))
    have HSP := Lib.hid c2
    obtain ⟨L, hL⟩ : ∃ q, (cs[k]'hkl) = q := ⟨_, rfl⟩
    rw [hL] at HL HGO HSP
    clear hL hc c2
    clear hkl
    rw [HL.out] at HGd
    clear HL
    have k0 : (0 : Int) ≤ (k : Int) := by omega
    have k1 : (k : Int) < (cn : Int) := by omega
    have HLM := Lib.hid HSP.out.len
    go_wp2_with fail
    (with_reducible refine (HFL.out _).mono ?_)
    rintro e w4 ⟨rfl, nd, hw4⟩
    have HB4 : Hid (Below w3.heap.size w3 w4) := Lib.hid (by rw [hw4]; exact below_drewN (Below.refl _ _) _)
    clear hw4
    have HBB := Lib.hid (HBB.out.keep HB4.out)
    have HSP := Lib.hid (HSP.out.keep HB4.out)
    have c1 := cell_keep c1 HB4.out
    clear e0 e1 e2 e3 HFL HB4
    have e0 : w4.cell? ⟨b, 0, none⟩ = some (.int .i64 P) := HBB.out.c0
    have e2 : w4.cell? ⟨b, 2, none⟩ = some (.slice (some ⟨g, p, none⟩) cn cc) := HBB.out.c2
    by_cases hm : m = 0
    · have HE : Hid (G = []) := Lib.hid (by
        have : L = [] := List.eq_nil_of_length_eq_zero (by rw [HLM.out]; exact hm)
        rw [HGd.out, this]; rfl)
      have t1 : ((m : Int) == 0) = true := by simp; omega
      go_wp2
      go_returns
      exact ⟨_, _, rfl, HBB.out.bw, Lib.hid (.inl ⟨(by rw [HE.out]; intro s hs; cases hs), rfl, by rw [HE.out]; exact World.ownsRow_nil _ _ _ _⟩)⟩
    · have t1 : ((m : Int) == 0) = false := by simp; omega
      have HNE : Hid (L ≠ []) := Lib.hid (fun h => by have := HLM.out; rw [h] at this; simp at this; omega)
      by_cases hv : -9223372036854775808 ≤ P * tn ∧ P * tn ≤ 9223372036854775807
      · have HML := Lib.hid (fun W => mul_ok P tn W p1 p2 d0 d1 hv.1 hv.2)
        have HMV := Lib.hid (fun W h => move_any o m d L HGO.out m1 (P * tn) hv.1 hv.2 W h)
        obtain ⟨by_, hby⟩ : ∃ q, P * tn = q := ⟨_, rfl⟩
        rw [hby] at HML HMV HGd
        clear hv hby
        go_wp2_with fail
        (with_reducible refine (HML.out _).mono ?_)
        rintro e w5 ⟨rfl, rfl⟩
        go_wp2_with fail
        (with_reducible refine (HMV.out _ HSP.out).mono ?_)
        rintro e w6 ⟨v, k6, rfl, b6, HV⟩
        have HV := Lib.hid HV
        have HBW := Lib.hid (HBB.out.bw.trans (b6.mono HBB.out.bw.size))
        have HSZ := Lib.hid HBB.out.bw.size
        clear b6
        go_wp2
        go_returns
        refine ⟨v, k6, rfl, HBW.out, Lib.hid ?_⟩
        rw [HGd.out]
        rcases HV.out with ⟨z1, z2, z3⟩ | ⟨z1, z2, z3⟩
        · exact .inl ⟨(fit_moved _ _).2 z1, z2, by rw [moved_length, HLM.out]; exact own_base z3 HSZ.out⟩
        · exact .inr ⟨fun h => by obtain ⟨s, hs, hn⟩ := z1; exact hn ((fit_moved _ _).1 h s hs), z2, z3⟩
      · have HML := Lib.hid (fun W => mul_over P tn W p1 p2 d0 d1 (by omega))
        have HNF : Hid (¬ Fit G) := Lib.hid (by rw [HGd.out]; exact far_out HGO.out HNE.out (by omega))
        clear hv
        go_wp2_with fail
        (with_reducible refine (HML.out _).mono ?_)
        rintro e w5 ⟨rfl, rfl⟩
        go_wp2
        go_returns
        exact ⟨_, _, rfl, HBB.out.bw, Lib.hid (.inr ⟨HNF.out, rfl, rfl⟩)⟩
end Go.Proofs.Ytmjapbjjfhmohaa
