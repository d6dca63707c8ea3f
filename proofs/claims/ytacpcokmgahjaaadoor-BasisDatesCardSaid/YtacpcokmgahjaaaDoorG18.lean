/- Contract: fitting. -/
import Derived.Test.YtacpcokmgahjaaaDoorG17u
import Derived.Test.YtacpcokmgahjaaaDoorG17d
namespace Go.Proofs.YtacpcokmgahjaaaDoor
set_option linter.unusedVariables false
set_option linter.unusedSimpArgs false
open Go.ChangeShapes Go.WideShapes Go.ChangeAt Go.RowKit
/-- An exception fits the granule beside it, one way. -/
def FitAt (F : Fv) (st : Int) (i : Nat) : Prop := ∀ h : i < F.os.length, ∀ j, Nr F F.os[i].1 st j true → Fit (gr F j) ∧ (F.os[i].2 ≠ [] → (if st < 0 then decide (hullB (gr F j) < hullA F.os[i].2) else decide (hullB F.os[i].2 < hullA (gr F j))) = true)
def FitOk (F : Fv) : Prop := ∀ i, FitAt F (-1) i ∧ FitAt F 1 i
theorem nr_unique {F : Fv} {x st j k : Int} (hst : st = 1 ∨ st = -1) (h1 : Nr F x st j true) (h2 : Nr F x st k true) : j = k := by
  obtain ⟨a1, a2, a3⟩ := h1.yes rfl
  obtain ⟨b1, b2, b3⟩ := h2.yes rfl
  rcases Int.lt_trichotomy (j * st) (k * st) with q | q | q
  · exact absurd (b3 j a1 q) a2
  · rcases hst with rfl | rfl <;> omega
  · exact absurd (a3 k b1 q) b2
theorem fitAt_none {F : Fv} {st j : Int} {i : Nat} (h : ∀ q : i < F.os.length, Nr F F.os[i].1 st j false) : FitAt F st i := by
  intro q k hk
  obtain ⟨a1, a2, a3⟩ := hk.yes rfl
  exact absurd ((h q).no rfl k a1) a2
theorem fitAt_one {F : Fv} {st j : Int} {i : Nat} (hst : st = 1 ∨ st = -1) (hi : i < F.os.length) (h : Nr F F.os[i].1 st j true) : FitAt F st i ↔ (Fit (gr F j) ∧ (F.os[i].2 ≠ [] → (if st < 0 then decide (hullB (gr F j) < hullA F.os[i].2) else decide (hullB F.os[i].2 < hullA (gr F j))) = true)) := by
  constructor
  · intro q; exact q hi j h
  · intro q _ k hk
    obtain rfl := nr_unique hst h hk
    exact q
theorem fitAt_out {F : Fv} {st : Int} {i : Nat} (h : ¬ i < F.os.length) : FitAt F st i := fun q => absurd q h
set_option maxRecDepth 8000 in
set_option maxHeartbeats 4000000 in
theorem fitting_any (F : Fv) (w : World) (hF : F.At w) (ok : F.Ok) (r : Bool) (hr : r = true ↔ FitOk F) :
    Calls Tryd.prog 32 #[F.v] w fun e w' => e = .returned (.bool r) ∧ Below w.heap.size w w' := by
  have HOK := Lib.hid ok
  have HR := Lib.hid hr
  clear ok hr
  obtain ⟨P, N, co, cn, cc, oo, on, oc, cs, os⟩ := F
  have LC : Hid (cs.length = cn) := Lib.hid hF.core.len
  have LO : Hid (os.length = on) := Lib.hid hF.odd.len
  have hmc : cn ≤ 9223372036854775807 := Nat.le_trans hF.core.le hF.core.top
  have hmo : on ≤ 9223372036854775807 := Nat.le_trans hF.odd.le hF.odd.top
  obtain ⟨b, hb⟩ : ∃ b, w.heap.size = b := ⟨_, rfl⟩
  obtain ⟨wb, hwb⟩ : ∃ wb, w.alloc (.cells #[.int .i64 P, .int .i64 N, .slice co cn cc, .slice oo on oc] 29) = wb := ⟨_, rfl⟩
  have HBB : Hid (Fbox ⟨P, N, co, cn, cc, oo, on, oc, cs, os⟩ w wb b) := Lib.hid (by rw [← hwb, ← hb]; exact fbox_new hF)
  clear hF
  show Calls Tryd.prog 32 #[.agg #[.int .i64 P, .int .i64 N, .slice co cn cc, .slice oo on oc]] w _
  go_enter Tryd.func32, Tryd.ntmps32
  go_upto_region 1 with fail
  clear hwb hb
  have HR : Hid (r = true ↔ FitOk ⟨P, N, co, cn, cc, oo, on, oc, cs, os⟩) := HR
  have l0 := (box_cells wb (.int .i64 (-1)) (.int .i64 1) 3).1
  have l1 := (box_cells wb (.int .i64 (-1)) (.int .i64 1) 3).2
  have KA := Lib.hid ((Below.refl _ wb).alloc (Nat.le_refl _) (.cells #[.int .i64 (-1), .int .i64 1] 3))
  go_wp2
  obtain ⟨bl, hbl⟩ : ∃ q, wb.heap.size = q := ⟨_, rfl⟩
  generalize hwl : wb.alloc (.cells #[.int .i64 (-1), .int .i64 1] 3) = wl
  rw [hwl] at l0 l1 KA
  rw [hbl] at l0 l1
  rw [hbl]
  have HBB := Lib.hid (HBB.out.keep KA.out)
  have HL0 := Lib.hid l0
  have HL1 := Lib.hid l1
  clear hwl hbl KA l0 l1
  go_loopw [12] (fun ii wr => ∃ k : Nat, k ≤ 2 ∧ ii = .int .i64 k ∧ Hid ((0 < k → ∀ q, FitAt ⟨P, N, co, cn, cc, oo, on, oc, cs, os⟩ (-1) q) ∧ (1 < k → ∀ q, FitAt ⟨P, N, co, cn, cc, oo, on, oc, cs, os⟩ 1 q)) ∧ Hid (Fbox ⟨P, N, co, cn, cc, oo, on, oc, cs, os⟩ w wr b) ∧ Hid (wr.cell? ⟨bl, 0, none⟩ = some (.int .i64 (-1))) ∧ Hid (wr.cell? ⟨bl, 1, none⟩ = some (.int .i64 1))) (fun ii _ => 2 - (intOf ii).toNat)
  case atStart => exact ⟨0, by omega, rfl, Lib.hid ⟨fun h => absurd h (Nat.lt_irrefl _), fun h => by omega⟩, HBB, HL0, HL1⟩
  case round =>
    obtain ⟨k, hk, rfl, HK, HBB, HL0, HL1⟩ := hrel
    by_cases hk0 : k = 0
    · subst hk0
      have l0 := HL0.out
      have l1 := HL1.out
      have HNB := Lib.hid (neighbors_dn ⟨P, N, co, cn, cc, oo, on, oc, cs, os⟩ wr HBB.out.at_ HOK.out)
      have e0 : wr.cell? ⟨b, 0, none⟩ = some (.int .i64 P) := HBB.out.c0
      have e1 : wr.cell? ⟨b, 1, none⟩ = some (.int .i64 N) := HBB.out.c1
      have e2 : wr.cell? ⟨b, 2, none⟩ = some (.slice co cn cc) := HBB.out.c2
      have e3 : wr.cell? ⟨b, 3, none⟩ = some (.slice oo on oc) := HBB.out.c3
      go_wp2_with fail
      (with_reducible refine HNB.out.mono ?_)
      rintro e wo ⟨g, rfl, hbo, HROW⟩
      have HBB := Lib.hid (HBB.out.keep hbo.out)
      have HL0 := Lib.hid (cell_keep HL0.out hbo.out)
      have HL1 := Lib.hid (cell_keep HL1.out hbo.out)
      clear hbo HNB e0 e1 e2 e3
      clear l0 l1
      go_wp2
      go_loopw [20] (fun ii wr => ∃ i : Nat, i ≤ on ∧ ii = .int .i64 i ∧ Hid (∀ q, q < i → FitAt ⟨P, N, co, cn, cc, oo, on, oc, cs, os⟩ (-1 : Int) q) ∧ Hid (Below wo.heap.size wo wr)) (fun ii _ => on - (intOf ii).toNat)
      case atStart => exact ⟨0, Nat.zero_le _, rfl, Lib.hid (fun q h => absurd h (Nat.not_lt_zero _)), Lib.hid (Below.refl _ _)⟩
      case round =>
        obtain ⟨i, hi, rfl, HFI, HW⟩ := hrel
        by_cases ilt : i < on
        · have hil : i < os.length := by rw [LO.out]; exact ilt
          obtain ⟨j, ok, y1, y2, hN⟩ : ∃ j ok, wr.cell? ⟨g, i * 2, none⟩ = some (.int .i64 j) ∧ wr.cell? ⟨g, i * 2 + 1, none⟩ = some (.bool ok) ∧ Nr ⟨P, N, co, cn, cc, oo, on, oc, cs, os⟩ (os[i]'hil).1 (-1 : Int) j ok := by
            obtain ⟨xs, h1, h2⟩ := HROW.out
            obtain ⟨j, ok, x1, x2, x3⟩ := h2 i hil
            have h1 : wo.ownsRow _ 116 2 (.slice (some ⟨g, 0, none⟩) on on) on xs := h1
            refine ⟨j, ok, cell_keep ?_ HW.out, cell_keep ?_ HW.out, x3⟩
            · rw [h1.cellAt _ (by omega)]; exact x1
            · rw [h1.cellAt _ (by omega)]; exact x2
          have HN := Lib.hid hN
          have i0 : (0 : Int) ≤ (i : Int) := by omega
          have i1 : (i : Int) < (on : Int) := by omega
          clear hN
          have z1 := (box_cells wr (.int .i64 j) (.bool ok) 116).1
          have z2 := (box_cells wr (.int .i64 j) (.bool ok) 116).2
          have KA := Lib.hid ((Below.refl _ wr).alloc (Nat.le_refl _) (.cells #[.int .i64 j, .bool ok] 116))
          obtain ⟨bx, hbx⟩ : ∃ q, wr.heap.size = q := ⟨_, rfl⟩
          go_upto_region 7 with fail
          generalize hwx : wr.alloc (.cells #[.int .i64 j, .bool ok] 116) = wx
          rw [hwx] at z1 z2 KA
          rw [hbx] at z1 z2
          try rw [hbx]
          have HWX := Lib.hid (HW.out.trans (KA.out.mono HW.out.size))
          clear hwx hbx KA y1 y2
          have HBX := Lib.hid (HBB.out.keep HWX.out)
          cases ok
          · have HFA : Hid (∀ q, q < i + 1 → FitAt ⟨P, N, co, cn, cc, oo, on, oc, cs, os⟩ (-1 : Int) q) := Lib.hid (fun q h => by
              by_cases e : q = i
              · subst e; exact fitAt_none (fun _ => HN.out)
              · exact HFI.out q (by omega))
            clear HN
            clear hil
            go_wp2
            go_roundw
            case rel => exact ⟨i + 1, by omega, by go_num, HFA, HWX⟩
            case measure => simp [intOf]; omega
          · have HONE := Lib.hid (fitAt_one (F := ⟨P, N, co, cn, cc, oo, on, oc, cs, os⟩) (.inr rfl) hil HN.out)
            have HJ : Hid (-1152921504606846976 ≤ j ∧ j ≤ 1152921504606846976) := Lib.hid ⟨HN.out.low, HN.out.high⟩
            have hj1 := HJ.out.1
            have hj2 := HJ.out.2
            have HHU := Lib.hid (fun W h => hullOf_any ⟨P, N, co, cn, cc, oo, on, oc, cs, os⟩ j W h HOK.out (by omega) (by omega))
            obtain ⟨G, hG⟩ : ∃ q, gr ⟨P, N, co, cn, cc, oo, on, oc, cs, os⟩ j = q := ⟨_, rfl⟩
            rw [hG] at HONE HHU
            have e0 : wx.cell? ⟨b, 0, none⟩ = some (.int .i64 P) := HBX.out.c0
            have e1 : wx.cell? ⟨b, 1, none⟩ = some (.int .i64 N) := HBX.out.c1
            have e2 : wx.cell? ⟨b, 2, none⟩ = some (.slice co cn cc) := HBX.out.c2
            have e3 : wx.cell? ⟨b, 3, none⟩ = some (.slice oo on oc) := HBX.out.c3
            clear hG HN HJ
            go_wp2_with fail
            (with_reducible refine (HHU.out _ HBX.out.at_).mono ?_)
            rintro e w5 ⟨x, y, k, rfl, q, HV⟩
            have HWX := Lib.hid (HWX.out.trans (q.mono HWX.out.size))
            have HBX := Lib.hid (HBX.out.keep q)
            clear q e0 e1 e2 e3 HHU z1 z2
            have x1 := (box_cells w5 (.int .i64 x) (.int .i64 y) 42).1
            have x2 := (box_cells w5 (.int .i64 x) (.int .i64 y) 42).2
            have KA := Lib.hid ((Below.refl _ w5).alloc (Nat.le_refl _) (.cells #[.int .i64 x, .int .i64 y] 42))
            obtain ⟨bh, hbh⟩ : ∃ q, w5.heap.size = q := ⟨_, rfl⟩
            go_upto_region 9 with fail
            generalize hwh : w5.alloc (.cells #[.int .i64 x, .int .i64 y] 42) = wh
            rw [hwh] at x1 x2 KA
            rw [hbh] at x1 x2
            try rw [hbh]
            have HWX := Lib.hid (HWX.out.trans (KA.out.mono HWX.out.size))
            have HBX := Lib.hid (HBX.out.keep KA.out)
            clear hwh hbh KA
            rcases HV.out with ⟨v1, rfl, v3, v4⟩ | ⟨v1, rfl⟩
            · have HV1 := Lib.hid v1
              have HXY : Hid (x = hullA G ∧ y = hullB G) := Lib.hid ⟨v3, v4⟩
              clear v1 v3 v4 HV
              have e3 : wh.cell? ⟨b, 3, none⟩ = some (.slice oo on oc) := HBX.out.c3
              obtain ⟨qa, p, e, hcc⟩ := (show OdAt wh oo on oc os from HBX.out.at_.odd).here (by omega)
              cases e
              obtain ⟨d1, ⟨so, m, d, d2, d3⟩, d4, d5⟩ := hcc i hil
              obtain ⟨O, hO⟩ : ∃ z, (os[i]'hil).2 = z := ⟨_, rfl⟩
              have HON : Hid (FitAt ⟨P, N, co, cn, cc, some ⟨qa, p, none⟩, on, oc, cs, os⟩ (-1 : Int) i ↔ (Fit G ∧ (O ≠ [] → (if (-1 : Int) < 0 then decide (hullB G < hullA O) else decide (hullB O < hullA G)) = true))) := Lib.hid (by rw [← hO]; exact HONE.out)
              clear HONE
              have HONE := HON
              clear HON
              rw [hO] at d3
              have HSP := Lib.hid d3
              have HLM := Lib.hid d3.len
              clear hcc d1 d3 d4 d5 hO
              clear hil
              by_cases hm : m = 0
              · have m0 : ¬ (0 : Int) < (m : Int) := by omega
                have HFA : Hid (∀ q, q < i + 1 → FitAt ⟨P, N, co, cn, cc, some ⟨qa, p, none⟩, on, oc, cs, os⟩ (-1 : Int) q) := Lib.hid (fun q h => by
                  by_cases e : q = i
                  · subst e; exact HONE.out.2 ⟨HV1.out, fun h => absurd (List.eq_nil_of_length_eq_zero (by rw [HLM.out]; exact hm)) h⟩
                  · exact HFI.out q (by omega))
                clear HONE HSP HLM HV1 HXY
                go_wp2
                go_roundw
                case rel => exact ⟨i + 1, by omega, by go_num, HFA, HWX⟩
                case measure => simp [intOf]; omega
              · have m0 : (0 : Int) < (m : Int) := by omega
                have HNE : Hid (O ≠ []) := Lib.hid (fun h => by have h2 := HLM.out; rw [h] at h2; exact hm h2.symm)
                obtain ⟨r1, hr1⟩ : ∃ r1, (if (-1 : Int) < 0 then decide (hullB G < hullA O) else decide (hullB O < hullA G)) = r1 := ⟨_, rfl⟩
                have HIO := Lib.hid (fun W h => inOrder_any x y (-1 : Int) so m d O W h HNE.out r1 (by rw [HXY.out.1, HXY.out.2]; exact hr1))
                rw [hr1] at HONE
                clear hr1
                go_wp2_with fail
                (with_reducible refine (HIO.out _ HSP.out).mono ?_)
                rintro e w6 ⟨rfl, q⟩
                have HWX := Lib.hid (HWX.out.trans (q.mono HWX.out.size))
                have HBX := Lib.hid (HBX.out.keep q)
                clear q HIO HSP HXY x1 x2 e3 d2
                cases r1
                · have HBAD : Hid (false = r) := Lib.hid (by
                    cases r
                    · rfl
                    · have h2 := (HR.out.1 rfl i).1
                      have h3 := (HONE.out.1 h2).2 HNE.out
                      cases h3)
                  go_wp2
                  go_returns
                  exact ⟨ret_bool (by rw [← HBAD.out]), HBX.out.bw⟩
                · have HFA : Hid (∀ q, q < i + 1 → FitAt ⟨P, N, co, cn, cc, some ⟨qa, p, none⟩, on, oc, cs, os⟩ (-1 : Int) q) := Lib.hid (fun q h => by
                    by_cases e : q = i
                    · subst e; exact HONE.out.2 ⟨HV1.out, fun _ => rfl⟩
                    · exact HFI.out q (by omega))
                  clear HONE HLM HV1 HNE
                  go_wp2
                  go_roundw
                  case rel => exact ⟨i + 1, by omega, by go_num, HFA, HWX⟩
                  case measure => simp [intOf]; omega
            · have HBAD : Hid (false = r) := Lib.hid (by
                cases r
                · rfl
                · have h2 := (HR.out.1 rfl i).1
                  exact absurd (HONE.out.1 h2).1 v1)
              clear v1 HV
              go_wp2
              go_returns
              exact ⟨ret_bool (by rw [← HBAD.out]), HBX.out.bw⟩
        · obtain rfl : on = i := by omega
          have HALL : Hid (∀ q, FitAt ⟨P, N, co, cn, cc, oo, on, oc, cs, os⟩ (-1 : Int) q) := Lib.hid (fun q => by
            by_cases e : q < on
            · exact HFI.out q e
            · exact fitAt_out (by have := LO.out; show ¬ q < os.length; omega))
          have HBX := Lib.hid (HBB.out.keep HW.out)
          have HM0 := Lib.hid (cell_keep HL0.out HW.out)
          have HM1 := Lib.hid (cell_keep HL1.out HW.out)
          clear HFI HROW
          go_wp2
          go_roundw
          case rel => exact ⟨1, by omega, by go_num, Lib.hid ⟨fun _ => HALL.out, fun h => by omega⟩, HBX, HM0, HM1⟩
          case measure => simp [intOf]
    · by_cases hk1 : k = 1
      · subst hk1
        have l0 := HL0.out
        have l1 := HL1.out
        have HNB := Lib.hid (neighbors_up ⟨P, N, co, cn, cc, oo, on, oc, cs, os⟩ wr HBB.out.at_ HOK.out)
        have e0 : wr.cell? ⟨b, 0, none⟩ = some (.int .i64 P) := HBB.out.c0
        have e1 : wr.cell? ⟨b, 1, none⟩ = some (.int .i64 N) := HBB.out.c1
        have e2 : wr.cell? ⟨b, 2, none⟩ = some (.slice co cn cc) := HBB.out.c2
        have e3 : wr.cell? ⟨b, 3, none⟩ = some (.slice oo on oc) := HBB.out.c3
        go_wp2_with fail
        (with_reducible refine HNB.out.mono ?_)
        rintro e wo ⟨g, rfl, hbo, HROW⟩
        have HBB := Lib.hid (HBB.out.keep hbo.out)
        have HL0 := Lib.hid (cell_keep HL0.out hbo.out)
        have HL1 := Lib.hid (cell_keep HL1.out hbo.out)
        clear hbo HNB e0 e1 e2 e3
        clear l0 l1
        go_wp2
        go_loopw [20] (fun ii wr => ∃ i : Nat, i ≤ on ∧ ii = .int .i64 i ∧ Hid (∀ q, q < i → FitAt ⟨P, N, co, cn, cc, oo, on, oc, cs, os⟩ (1 : Int) q) ∧ Hid (Below wo.heap.size wo wr)) (fun ii _ => on - (intOf ii).toNat)
        case atStart => exact ⟨0, Nat.zero_le _, rfl, Lib.hid (fun q h => absurd h (Nat.not_lt_zero _)), Lib.hid (Below.refl _ _)⟩
        case round =>
          obtain ⟨i, hi, rfl, HFI, HW⟩ := hrel
          by_cases ilt : i < on
          · have hil : i < os.length := by rw [LO.out]; exact ilt
            obtain ⟨j, ok, y1, y2, hN⟩ : ∃ j ok, wr.cell? ⟨g, i * 2, none⟩ = some (.int .i64 j) ∧ wr.cell? ⟨g, i * 2 + 1, none⟩ = some (.bool ok) ∧ Nr ⟨P, N, co, cn, cc, oo, on, oc, cs, os⟩ (os[i]'hil).1 1 j ok := by
              obtain ⟨xs, h1, h2⟩ := HROW.out
              obtain ⟨j, ok, x1, x2, x3⟩ := h2 i hil
              have h1 : wo.ownsRow _ 116 2 (.slice (some ⟨g, 0, none⟩) on on) on xs := h1
              refine ⟨j, ok, cell_keep ?_ HW.out, cell_keep ?_ HW.out, x3⟩
              · rw [h1.cellAt _ (by omega)]; exact x1
              · rw [h1.cellAt _ (by omega)]; exact x2
            have HN := Lib.hid hN
            have i0 : (0 : Int) ≤ (i : Int) := by omega
            have i1 : (i : Int) < (on : Int) := by omega
            clear hN
            have z1 := (box_cells wr (.int .i64 j) (.bool ok) 116).1
            have z2 := (box_cells wr (.int .i64 j) (.bool ok) 116).2
            have KA := Lib.hid ((Below.refl _ wr).alloc (Nat.le_refl _) (.cells #[.int .i64 j, .bool ok] 116))
            obtain ⟨bx, hbx⟩ : ∃ q, wr.heap.size = q := ⟨_, rfl⟩
            go_upto_region 7 with fail
            generalize hwx : wr.alloc (.cells #[.int .i64 j, .bool ok] 116) = wx
            rw [hwx] at z1 z2 KA
            rw [hbx] at z1 z2
            try rw [hbx]
            have HWX := Lib.hid (HW.out.trans (KA.out.mono HW.out.size))
            clear hwx hbx KA y1 y2
            have HBX := Lib.hid (HBB.out.keep HWX.out)
            cases ok
            · have HFA : Hid (∀ q, q < i + 1 → FitAt ⟨P, N, co, cn, cc, oo, on, oc, cs, os⟩ (1 : Int) q) := Lib.hid (fun q h => by
                by_cases e : q = i
                · subst e; exact fitAt_none (fun _ => HN.out)
                · exact HFI.out q (by omega))
              clear HN
              clear hil
              go_wp2
              go_roundw
              case rel => exact ⟨i + 1, by omega, by go_num, HFA, HWX⟩
              case measure => simp [intOf]; omega
            · have HONE := Lib.hid (fitAt_one (F := ⟨P, N, co, cn, cc, oo, on, oc, cs, os⟩) (.inl rfl) hil HN.out)
              have HJ : Hid (-1152921504606846976 ≤ j ∧ j ≤ 1152921504606846976) := Lib.hid ⟨HN.out.low, HN.out.high⟩
              have hj1 := HJ.out.1
              have hj2 := HJ.out.2
              have HHU := Lib.hid (fun W h => hullOf_any ⟨P, N, co, cn, cc, oo, on, oc, cs, os⟩ j W h HOK.out (by omega) (by omega))
              obtain ⟨G, hG⟩ : ∃ q, gr ⟨P, N, co, cn, cc, oo, on, oc, cs, os⟩ j = q := ⟨_, rfl⟩
              rw [hG] at HONE HHU
              have e0 : wx.cell? ⟨b, 0, none⟩ = some (.int .i64 P) := HBX.out.c0
              have e1 : wx.cell? ⟨b, 1, none⟩ = some (.int .i64 N) := HBX.out.c1
              have e2 : wx.cell? ⟨b, 2, none⟩ = some (.slice co cn cc) := HBX.out.c2
              have e3 : wx.cell? ⟨b, 3, none⟩ = some (.slice oo on oc) := HBX.out.c3
              clear hG HN HJ
              go_wp2_with fail
              (with_reducible refine (HHU.out _ HBX.out.at_).mono ?_)
              rintro e w5 ⟨x, y, k, rfl, q, HV⟩
              have HWX := Lib.hid (HWX.out.trans (q.mono HWX.out.size))
              have HBX := Lib.hid (HBX.out.keep q)
              clear q e0 e1 e2 e3 HHU z1 z2
              have x1 := (box_cells w5 (.int .i64 x) (.int .i64 y) 42).1
              have x2 := (box_cells w5 (.int .i64 x) (.int .i64 y) 42).2
              have KA := Lib.hid ((Below.refl _ w5).alloc (Nat.le_refl _) (.cells #[.int .i64 x, .int .i64 y] 42))
              obtain ⟨bh, hbh⟩ : ∃ q, w5.heap.size = q := ⟨_, rfl⟩
              go_upto_region 9 with fail
              generalize hwh : w5.alloc (.cells #[.int .i64 x, .int .i64 y] 42) = wh
              rw [hwh] at x1 x2 KA
              rw [hbh] at x1 x2
              try rw [hbh]
              have HWX := Lib.hid (HWX.out.trans (KA.out.mono HWX.out.size))
              have HBX := Lib.hid (HBX.out.keep KA.out)
              clear hwh hbh KA
              rcases HV.out with ⟨v1, rfl, v3, v4⟩ | ⟨v1, rfl⟩
              · have HV1 := Lib.hid v1
                have HXY : Hid (x = hullA G ∧ y = hullB G) := Lib.hid ⟨v3, v4⟩
                clear v1 v3 v4 HV
                have e3 : wh.cell? ⟨b, 3, none⟩ = some (.slice oo on oc) := HBX.out.c3
                obtain ⟨qa, p, e, hcc⟩ := (show OdAt wh oo on oc os from HBX.out.at_.odd).here (by omega)
                cases e
                obtain ⟨d1, ⟨so, m, d, d2, d3⟩, d4, d5⟩ := hcc i hil
                obtain ⟨O, hO⟩ : ∃ z, (os[i]'hil).2 = z := ⟨_, rfl⟩
                have HON : Hid (FitAt ⟨P, N, co, cn, cc, some ⟨qa, p, none⟩, on, oc, cs, os⟩ (1 : Int) i ↔ (Fit G ∧ (O ≠ [] → (if (1 : Int) < 0 then decide (hullB G < hullA O) else decide (hullB O < hullA G)) = true))) := Lib.hid (by rw [← hO]; exact HONE.out)
                clear HONE
                have HONE := HON
                clear HON
                rw [hO] at d3
                have HSP := Lib.hid d3
                have HLM := Lib.hid d3.len
                clear hcc d1 d3 d4 d5 hO
                clear hil
                by_cases hm : m = 0
                · have m0 : ¬ (0 : Int) < (m : Int) := by omega
                  have HFA : Hid (∀ q, q < i + 1 → FitAt ⟨P, N, co, cn, cc, some ⟨qa, p, none⟩, on, oc, cs, os⟩ (1 : Int) q) := Lib.hid (fun q h => by
                    by_cases e : q = i
                    · subst e; exact HONE.out.2 ⟨HV1.out, fun h => absurd (List.eq_nil_of_length_eq_zero (by rw [HLM.out]; exact hm)) h⟩
                    · exact HFI.out q (by omega))
                  clear HONE HSP HLM HV1 HXY
                  go_wp2
                  go_roundw
                  case rel => exact ⟨i + 1, by omega, by go_num, HFA, HWX⟩
                  case measure => simp [intOf]; omega
                · have m0 : (0 : Int) < (m : Int) := by omega
                  have HNE : Hid (O ≠ []) := Lib.hid (fun h => by have h2 := HLM.out; rw [h] at h2; exact hm h2.symm)
                  obtain ⟨r1, hr1⟩ : ∃ r1, (if (1 : Int) < 0 then decide (hullB G < hullA O) else decide (hullB O < hullA G)) = r1 := ⟨_, rfl⟩
                  have HIO := Lib.hid (fun W h => inOrder_any x y (1 : Int) so m d O W h HNE.out r1 (by rw [HXY.out.1, HXY.out.2]; exact hr1))
                  rw [hr1] at HONE
                  clear hr1
                  go_wp2_with fail
                  (with_reducible refine (HIO.out _ HSP.out).mono ?_)
                  rintro e w6 ⟨rfl, q⟩
                  have HWX := Lib.hid (HWX.out.trans (q.mono HWX.out.size))
                  have HBX := Lib.hid (HBX.out.keep q)
                  clear q HIO HSP HXY x1 x2 e3 d2
                  cases r1
                  · have HBAD : Hid (false = r) := Lib.hid (by
                      cases r
                      · rfl
                      · have h2 := (HR.out.1 rfl i).2
                        have h3 := (HONE.out.1 h2).2 HNE.out
                        cases h3)
                    go_wp2
                    go_returns
                    exact ⟨ret_bool (by rw [← HBAD.out]), HBX.out.bw⟩
                  · have HFA : Hid (∀ q, q < i + 1 → FitAt ⟨P, N, co, cn, cc, some ⟨qa, p, none⟩, on, oc, cs, os⟩ (1 : Int) q) := Lib.hid (fun q h => by
                      by_cases e : q = i
                      · subst e; exact HONE.out.2 ⟨HV1.out, fun _ => rfl⟩
                      · exact HFI.out q (by omega))
                    clear HONE HLM HV1 HNE
                    go_wp2
                    go_roundw
                    case rel => exact ⟨i + 1, by omega, by go_num, HFA, HWX⟩
                    case measure => simp [intOf]; omega
              · have HBAD : Hid (false = r) := Lib.hid (by
                  cases r
                  · rfl
                  · have h2 := (HR.out.1 rfl i).2
                    exact absurd (HONE.out.1 h2).1 v1)
                clear v1 HV
                go_wp2
                go_returns
                exact ⟨ret_bool (by rw [← HBAD.out]), HBX.out.bw⟩
          · obtain rfl : on = i := by omega
            have HALL : Hid (∀ q, FitAt ⟨P, N, co, cn, cc, oo, on, oc, cs, os⟩ (1 : Int) q) := Lib.hid (fun q => by
              by_cases e : q < on
              · exact HFI.out q e
              · exact fitAt_out (by have := LO.out; show ¬ q < os.length; omega))
            have HBX := Lib.hid (HBB.out.keep HW.out)
            have HM0 := Lib.hid (cell_keep HL0.out HW.out)
            have HM1 := Lib.hid (cell_keep HL1.out HW.out)
            clear HFI HROW
            go_wp2
            go_roundw
            case rel => exact ⟨2, by omega, by go_num, Lib.hid ⟨fun _ => HK.out.1 (by omega), fun _ => HALL.out⟩, HBX, HM0, HM1⟩
            case measure => simp [intOf]
      · obtain rfl : k = 2 := by omega
        have HE : Hid (true = r) := Lib.hid (HR.out.2 (fun i => ⟨HK.out.1 (by omega) i, HK.out.2 (by omega) i⟩)).symm
        clear HK
        go_wp2
        go_returns
        exact ⟨ret_bool (by rw [← HE.out]), HBB.out.bw⟩
end Go.Proofs.YtacpcokmgahjaaaDoor
