/- Contract: Copy. -/
import Derived.Test.YtacpcokmgahjaaaDoorC3
import Derived.Test.YtacpcokmgahjaaaDoorG9
namespace Go.Proofs.YtacpcokmgahjaaaDoor
set_option linter.unusedVariables false
set_option linter.unusedSimpArgs false
open Go.ChangeShapes Go.WideShapes Go.ChangeAt Go.RowKit
theorem co_start {w0 w : World} {B n : Nat} {v : Value} {vs : List Value} {ls : List (List Sp)} (h : w.ownsRow B 38 1 v n vs) (hl : ls.length = n) (hv : VsCo w0 vs ls) : CoHalf w0 w B v n ls 0 :=
  ⟨hl, vs, h, fun j hj q => absurd q (Nat.not_lt_zero _), fun j hj _ => hv.at_ j hj⟩
set_option maxRecDepth 8000 in
set_option maxHeartbeats 4000000 in
theorem copy_any (F : Fv) (w : World) (hF : F.At w) (h1 : F.cn ≤ 1000000) (h2 : F.on ≤ 1000000) (h3 : ∀ l ∈ F.cs, l.length ≤ 1000000) (h4 : ∀ o ∈ F.os, o.2.length ≤ 1000000) :
    Calls Tryd.prog 22 #[F.v] w fun e w' => ∃ vc vo, e = .returned (.agg #[.int .i64 F.P, .int .i64 F.N, vc, vo]) ∧ Hid (CoOwn w' w.heap.size vc F.cn F.cs ∧ OdOwn w' w.heap.size vo F.on F.os) ∧ Hid (Below w.heap.size w w') := by
  obtain ⟨P, N, co, cn, cc, oo, on, oc, cs, os⟩ := F
  have LC : Hid (cs.length = cn) := Lib.hid hF.core.len
  have LO : Hid (os.length = on) := Lib.hid hF.odd.len
  have h1 : cn ≤ 1000000 := h1
  have h2 : on ≤ 1000000 := h2
  have S1 : Hid (∀ l ∈ cs, l.length ≤ 1000000) := Lib.hid h3
  have S2 : Hid (∀ o ∈ os, o.2.length ≤ 1000000) := Lib.hid h4
  have hmc : cn ≤ 9223372036854775807 := by omega
  have hmo : on ≤ 9223372036854775807 := by omega
  clear h3 h4
  obtain ⟨b, hb⟩ : ∃ b, w.heap.size = b := ⟨_, rfl⟩
  obtain ⟨ro, hro⟩ : ∃ ro, b + 1 = ro := ⟨_, rfl⟩
  obtain ⟨wc, hwc⟩ : ∃ wc, (w.alloc (.cells #[.int .i64 P, .int .i64 N, .slice co cn cc, .slice oo on oc] 29)).alloc (.cells #[.int .i64 0, .int .i64 0, .slice none 0 0, .slice none 0 0] 29) = wc := ⟨_, rfl⟩
  have HP : Hid (Cp ⟨P, N, co, cn, cc, oo, on, oc, cs, os⟩ w wc b ro (b + 2) (.slice co cn cc) (.slice oo on oc)) := Lib.hid (by
    refine ⟨hF, ?_, by omega, by omega, by omega, by omega, by omega, ?_, ?_, ?_⟩
    · rw [← hwc]; exact ((Below.refl _ w).alloc (Nat.le_refl _) _).alloc (by simp) _
    · rw [← hwc]; simp; omega
    · rw [← hwc, ← hb, heap_alloc_old _ _ (by simp), heap_alloc_new]
    · rw [← hwc, ← hro, ← hb, show w.heap.size + 1 = (w.alloc (.cells #[.int .i64 P, .int .i64 N, .slice co cn cc, .slice oo on oc] 29)).heap.size by simp, heap_alloc_new])
  clear hF
  show Calls Tryd.prog 22 #[.agg #[.int .i64 P, .int .i64 N, .slice co cn cc, .slice oo on oc]] w _
  go_enter Tryd.func22, Tryd.ntmps22
  go_upto_region 1 with fail
  have HLO : Hid (w.heap.size = b) := Lib.hid hb
  clear hwc hb hro
  have e2 : wc.cell? ⟨b, 2, none⟩ = some (.slice co cn cc) := HP.out.cell 2
  have f2 := HP.out.free 2
  have HCC := Lib.hid (fun W h => cloneCo_any co cn cc cs h1 w W HP.out.f.core h)
  go_wp2_with fail
  (with_reducible refine (HCC.out _ HP.out.bw).mono ?_)
  rintro e w1 ⟨vc, vs, rfl, q1, q2, q3⟩
  have HP0 := HP
  have HP := Lib.hid (HP.out.keep q3)
  clear e2 f2 HCC
  have e2 : w1.cell? ⟨b, 2, none⟩ = some (.slice co cn cc) := HP.out.cell 2
  have f2 := HP.out.free 2
  have HS2 : Hid (b + 2 ≤ wc.heap.size) := Lib.hid HP0.out.sz
  have hg2 := Lib.hid (grown_cell w1 ⟨b, 2, none⟩ vc)
  have HH : Hid (CoHalf w (w1.setCell ⟨b, 2, none⟩ vc) (b + 2) vc cn cs 0) := Lib.hid ((co_start (own_base q1 HS2.out) LC.out q2).grown hg2.out (fun q e => .inl (by cases e; show b < b + 2; omega)) (fun q e => .inl (by cases e; show b < b + 2; omega)))
  have HP := Lib.hid (HP.out.put2 vc)
  obtain ⟨ao, c2, rfl, _⟩ : ∃ ao c2, vc = .slice ao cn c2 ∧ True := by
    rcases q1.2 with ⟨rfl, h0⟩ | ⟨g, cap, cur, rfl, _⟩
    · exact ⟨none, 0, by rw [h0], trivial⟩
    · exact ⟨_, _, rfl, trivial⟩
  clear q1 q2 q3 hg2 HP0 HS2
  go_upto_region 2 with fail
  generalize hw2 : w1.setCell ⟨b, 2, none⟩ (.slice ao cn c2) = w2
  rw [hw2] at HP HH
  clear hw2 e2 f2
  have e2 : w2.cell? ⟨b, 2, none⟩ = some (.slice ao cn c2) := HP.out.cell 2
  go_wp2
  clear e2
  go_loopw [14] (fun ii wr => ∃ i : Nat, i ≤ cn ∧ ii = .int .i64 i ∧ Hid (CoHalf w wr (b + 2) (.slice ao cn c2) cn cs i ∧ Cp ⟨P, N, co, cn, cc, oo, on, oc, cs, os⟩ w wr b ro (b + 2) (.slice ao cn c2) (.slice oo on oc))) (fun ii _ => cn - (intOf ii).toNat)
  case atStart => exact ⟨0, Nat.zero_le _, rfl, Lib.hid ⟨HH.out, HP.out⟩⟩
  case round =>
    obtain ⟨i, hi, rfl, HW⟩ := hrel
    have HH := Lib.hid HW.out.1
    have HP := Lib.hid HW.out.2
    clear HW
    by_cases ilt : i < cn
    · obtain ⟨xs, x1, x2, x3⟩ := HH.out.row
      obtain ⟨g, rfl⟩ : ∃ g, ao = some ⟨g, 0, none⟩ := by
        rcases x1.2 with ⟨e, h0⟩ | ⟨g, cap, cur, e, _⟩
        · omega
        · cases e; exact ⟨g, rfl⟩
      have hil : i < cs.length := by rw [LC.out]; exact ilt
      obtain ⟨o, m, d, y1, y2⟩ := x3 i hil (Nat.le_refl _)
      have z1 : wr.cell? ⟨g, i, none⟩ = some (.slice o m d) := by rw [x1.cellAt i (by omega)]; exact y1
      have m1 : m ≤ 1000000 := by rw [← y2.len]; exact S1.out _ (List.getElem_mem hil)
      have HSP := Lib.hid (y2.keep HP.out.bw)
      have HCL := Lib.hid (fun W h => clone_any o m d cs[i] m1 W (HSP.out.keep h))
      have HML := Lib.hid y2.len
      have HST := Lib.hid (fun W u B2 (h : CoHalf w W (b + 2) (.slice (some ⟨g, 0, none⟩) cn c2) cn cs i) (hB : b + 2 ≤ B2) (hu : W.ownsRow B2 42 2 u m (spCells cs[i])) => h.step ilt hB (by rw [y2.len]; exact hu))
      obtain ⟨L, hL⟩ : ∃ q, cs[i] = q := ⟨_, rfl⟩
      rw [hL] at HSP HCL HML HST
      have fz := x1.frozenAt i
      have HGB : Hid (b + 2 ≤ g) := Lib.hid (x1.lt g rfl).1
      have i0 : (0 : Int) ≤ (i : Int) := by omega
      have i1 : (i : Int) < (cn : Int) := by omega
      have e2 : wr.cell? ⟨b, 2, none⟩ = some (.slice (some ⟨g, 0, none⟩) cn c2) := HP.out.cell 2
      clear x1 x2 x3 y1 y2 hL
      clear hil
      go_wp2_with fail
      have HHK := Lib.hid (fun W (h : Below wr.heap.size wr W) => (⟨HH.out.keep h, HP.out.keep h⟩ : CoHalf w W (b + 2) (.slice (some ⟨g, 0, none⟩) cn c2) cn cs i ∧ Cp ⟨P, N, co, cn, cc, oo, on, oc, cs, os⟩ w W b ro (b + 2) (.slice (some ⟨g, 0, none⟩) cn c2) (.slice oo on oc)))
      have HBR := Lib.hid ((Below.refl wr.heap.size wr).drew)
      go_region_with (go_at_call 42; (with_reducible refine (HCL.out _ (HBR.out)).mono ?_); rintro e w3 ⟨v, rfl, z, q⟩; obtain ⟨a3, c3, rfl, _⟩ := own_sp HML.out z; have q2 := Lib.hid ((HBR.out).trans q); have HZ := Lib.hid z; have fz := free_keep fz z1 q2.out; have z1 := cell_keep z1 q2.out; have e2 := cell_keep e2 q2.out; clear q z)
      all_goals
        have HN : Hid (CoHalf w (w3.setCell ⟨g, i, none⟩ (.slice a3 m c3)) (b + 2) (.slice (some ⟨g, 0, none⟩) cn c2) cn cs (i + 1) ∧ Cp ⟨P, N, co, cn, cc, oo, on, oc, cs, os⟩ w (w3.setCell ⟨g, i, none⟩ (.slice a3 m c3)) b ro (b + 2) (.slice (some ⟨g, 0, none⟩) cn c2) (.slice oo on oc)) := Lib.hid ⟨HST.out w3 _ _ (HHK.out w3 q2.out).1 HP.out.sz HZ.out, (HHK.out w3 q2.out).2.grown (grown_cell w3 ⟨g, i, none⟩ _) (fun q e => by cases e; exact HGB.out)⟩
        generalize hw4 : w3.setCell ⟨g, i, none⟩ (.slice a3 m c3) = w4
        rw [hw4] at HN
        clear hw4 HZ fz z1 e2 q2 HHK HST HSP HCL HBR
        go_wp2
        go_roundw
        case rel => exact ⟨i + 1, by omega, by go_num, HN⟩
        case measure => simp [intOf]; omega
    · obtain rfl : cn = i := by omega
      have HCO := Lib.hid HH.out.done
      clear HH
      have e3 : wr.cell? ⟨b, 3, none⟩ = some (.slice oo on oc) := HP.out.cell 3
      have f3 := HP.out.free 3
      have HCC := Lib.hid (fun W h => cloneOd_any oo on oc os h2 w W HP.out.f.odd h)
      go_wp2_with fail
      (with_reducible refine (HCC.out _ HP.out.bw).mono ?_)
      rintro e w3 ⟨vo, vs2, rfl, q1, q2, q3⟩
      have HS2 : Hid (b + 2 ≤ wr.heap.size) := Lib.hid HP.out.sz
      have HCO := Lib.hid (HCO.out.keep q3)
      have HP := Lib.hid (HP.out.keep q3)
      clear e3 f3 HCC
      have e3 : w3.cell? ⟨b, 3, none⟩ = some (.slice oo on oc) := HP.out.cell 3
      have f3 := HP.out.free 3
      have hg2 := Lib.hid (grown_cell w3 ⟨b, 3, none⟩ vo)
      have HH : Hid (OdHalf w (w3.setCell ⟨b, 3, none⟩ vo) (b + 2) vo on os 0) := Lib.hid ((od_start (own_base q1 HS2.out) LO.out q2).grown hg2.out (fun q e => .inl (by cases e; show b < b + 2; omega)) (fun q e => .inl (by cases e; show b < b + 2; omega)))
      have HCO := Lib.hid (HCO.out.grown hg2.out (fun q e => .inl (by cases e; show b < b + 2; omega)) (fun q e => .inl (by cases e; show b < b + 2; omega)))
      have HP := Lib.hid (HP.out.put3 vo)
      obtain ⟨qo, q2c, rfl, _⟩ : ∃ ao c2, vo = .slice ao on c2 ∧ True := by
        rcases q1.2 with ⟨rfl, h0⟩ | ⟨g, cap, cur, rfl, _⟩
        · exact ⟨none, 0, by rw [h0], trivial⟩
        · exact ⟨_, _, rfl, trivial⟩
      clear q1 q2 q3 hg2 HS2
      go_upto_region 8 with fail
      generalize hw4 : w3.setCell ⟨b, 3, none⟩ (.slice qo on q2c) = w4
      rw [hw4] at HP HH HCO
      clear hw4 e3 f3
      have e3 : w4.cell? ⟨b, 3, none⟩ = some (.slice qo on q2c) := HP.out.cell 3
      go_wp2
      clear e3
      go_loopw [33] (fun ii wr => ∃ i : Nat, i ≤ on ∧ ii = .int .i64 i ∧ Hid (OdHalf w wr (b + 2) (.slice qo on q2c) on os i ∧ CoOwn wr (b + 2) (.slice ao cn c2) cn cs ∧ Cp ⟨P, N, co, cn, cc, oo, on, oc, cs, os⟩ w wr b ro (b + 2) (.slice ao cn c2) (.slice qo on q2c))) (fun ii _ => on - (intOf ii).toNat)
      case atStart => exact ⟨0, Nat.zero_le _, rfl, Lib.hid ⟨HH.out, HCO.out, HP.out⟩⟩
      case round =>
        obtain ⟨i, hi, rfl, HW⟩ := hrel
        have HH := Lib.hid HW.out.1
        have HCO := Lib.hid HW.out.2.1
        have HP := Lib.hid HW.out.2.2
        clear HW
        by_cases ilt : i < on
        · obtain ⟨xs, x1, x0, x2, x3⟩ := HH.out.row
          obtain ⟨g, rfl⟩ : ∃ g, qo = some ⟨g, 0, none⟩ := by
            rcases x1.2 with ⟨e, h0⟩ | ⟨g, cap, cur, e, _⟩
            · omega
            · cases e; exact ⟨g, rfl⟩
          have hil : i < os.length := by rw [LO.out]; exact ilt
          obtain ⟨o, m, d, y1, y2⟩ := x3 i hil (Nat.le_refl _)
          have z0 : wr.cell? ⟨g, i * 2, none⟩ = some (.int .i64 (os[i]'hil).1) := by rw [x1.cellAt _ (by omega)]; exact (x0 i hil).1
          have z1 : wr.cell? ⟨g, i * 2 + 1, none⟩ = some (.slice o m d) := by rw [x1.cellAt _ (by omega)]; exact y1
          have m1 : m ≤ 1000000 := by rw [← y2.len]; exact S2.out _ (List.getElem_mem hil)
          have HSP := Lib.hid (y2.keep HP.out.bw)
          have HCL := Lib.hid (fun W h => clone_any o m d (os[i]'hil).2 m1 W (HSP.out.keep h))
          have HML := Lib.hid y2.len
          have HST := Lib.hid (fun W u B2 (h : OdHalf w W (b + 2) (.slice (some ⟨g, 0, none⟩) on q2c) on os i) (hB : b + 2 ≤ B2) (hu : W.ownsRow B2 42 2 u m (spCells (os[i]'hil).2)) => h.step ilt hB (by rw [y2.len]; exact hu))
          obtain ⟨L, hL⟩ : ∃ q, (os[i]'hil).2 = q := ⟨_, rfl⟩
          rw [hL] at HSP HCL HML HST
          obtain ⟨X, hX⟩ : ∃ q, (os[i]'hil).1 = q := ⟨_, rfl⟩
          rw [hX] at z0
          have HGB : Hid (b + 2 ≤ g) := Lib.hid (x1.lt g rfl).1
          have fz := x1.frozenAt (i * 2 + 1)
          have i0 : (0 : Int) ≤ (i : Int) := by omega
          have i1 : (i : Int) < (on : Int) := by omega
          clear x1 x2 x3 y1 y2 hL x0 hX
          clear hil
          go_upto_region 11 with fail
          have KA := Lib.hid ((Below.refl _ wr).alloc (Nat.le_refl _) (.cells #[.int .i64 X, .slice o m d] 75))
          have u1 := (box_cells wr (.int .i64 X) (.slice o m d) 75).2
          obtain ⟨bx, hbx⟩ : ∃ q, wr.heap.size = q := ⟨_, rfl⟩
          have HSZ : Hid (b + 2 ≤ wr.heap.size) := Lib.hid HP.out.sz
          generalize hwx : wr.alloc (.cells #[.int .i64 X, .slice o m d] 75) = wx
          rw [hwx] at KA u1
          rw [hbx] at u1
          rw [hbx]
          have fz := free_keep fz z1 KA.out
          have z1 := cell_keep z1 KA.out
          have HHX : Hid (OdHalf w wx (b + 2) (.slice (some ⟨g, 0, none⟩) on q2c) on os i ∧ CoOwn wx (b + 2) (.slice ao cn c2) cn cs ∧ Cp ⟨P, N, co, cn, cc, oo, on, oc, cs, os⟩ w wx b ro (b + 2) (.slice ao cn c2) (.slice (some ⟨g, 0, none⟩) on q2c)) := Lib.hid ⟨HH.out.keep KA.out, HCO.out.keep KA.out, HP.out.keep KA.out⟩
          have HCL := Lib.hid (fun W (h : Below wx.heap.size wx W) => HCL.out W (KA.out.trans (h.mono KA.out.size)))
          have HSZ : Hid (b + 2 ≤ wx.heap.size) := Lib.hid (Nat.le_trans HSZ.out KA.out.size)
          clear HH HCO HP hwx hbx KA z0 HSP
          have e3 : wx.cell? ⟨b, 3, none⟩ = some (.slice (some ⟨g, 0, none⟩) on q2c) := HHX.out.2.2.cell 3
          have HBR := Lib.hid ((Below.refl wx.heap.size wx).drew)
          go_region_with (go_at_call 42; (with_reducible refine (HCL.out _ HBR.out).mono ?_); rintro e w3 ⟨v, rfl, z, q⟩; obtain ⟨a3, c3, rfl, _⟩ := own_sp HML.out z; have q2 := Lib.hid (HBR.out.trans q); have HZ := Lib.hid z; have fz := free_keep fz z1 q2.out; have z1 := cell_keep z1 q2.out; have e3 := cell_keep e3 q2.out; have u1 := cell_keep u1 q2.out; clear q z)
          all_goals
            have HN : Hid (OdHalf w (w3.setCell ⟨g, i * 2 + 1, none⟩ (.slice a3 m c3)) (b + 2) (.slice (some ⟨g, 0, none⟩) on q2c) on os (i + 1) ∧ CoOwn (w3.setCell ⟨g, i * 2 + 1, none⟩ (.slice a3 m c3)) (b + 2) (.slice ao cn c2) cn cs ∧ Cp ⟨P, N, co, cn, cc, oo, on, oc, cs, os⟩ w (w3.setCell ⟨g, i * 2 + 1, none⟩ (.slice a3 m c3)) b ro (b + 2) (.slice ao cn c2) (.slice (some ⟨g, 0, none⟩) on q2c)) := Lib.hid (by
              have h := HHX.out.1.keep q2.out
              obtain ⟨xs, r1, _⟩ := h.row
              obtain ⟨cur, r2⟩ := own_typed r1 (g := g) rfl
              have ho : ∀ e, 75 ≠ e → Off w3 (b + 2) e (some g) := fun e he q z => .inr ⟨cur, 75, by cases z; exact r2, he⟩
              exact ⟨HST.out w3 _ _ h HSZ.out HZ.out, (HHX.out.2.1.keep q2.out).grown (grown_cell w3 ⟨g, i * 2 + 1, none⟩ _) (ho _ (by decide)) (ho _ (by decide)), (HHX.out.2.2.keep q2.out).grown (grown_cell w3 ⟨g, i * 2 + 1, none⟩ _) (fun q e => by cases e; exact HGB.out)⟩)
            generalize hw4 : w3.setCell ⟨g, i * 2 + 1, none⟩ (.slice a3 m c3) = w4
            rw [hw4] at HN
            clear hw4 HZ fz z1 e3 q2 HHX HST HCL HBR u1
            go_wp2
            go_roundw
            case rel => exact ⟨i + 1, by omega, by go_num, HN⟩
            case measure => simp [intOf]; omega
        · obtain rfl : on = i := by omega
          have HOD := Lib.hid HH.out.done
          have e0 : wr.cell? ⟨b, 0, none⟩ = some (.int .i64 P) := HP.out.cell 0
          have e1 : wr.cell? ⟨b, 1, none⟩ = some (.int .i64 N) := HP.out.cell 1
          have e2 : wr.cell? ⟨b, 2, none⟩ = some (.slice ao cn c2) := HP.out.cell 2
          have e3 : wr.cell? ⟨b, 3, none⟩ = some (.slice qo on q2c) := HP.out.cell 3
          have r0 := HP.out.resc 0
          have r1 := HP.out.resc 1
          have r2 := HP.out.resc 2
          have r3 := HP.out.resc 3
          have f0 := HP.out.rfree 0
          have f1 := HP.out.rfree 1
          have f2 := HP.out.rfree 2
          have f3 := HP.out.rfree 3
          clear HH
          go_wp2_with fail
          have HRS := Lib.hid (put_four HP.out.res (.int .i64 P) (.int .i64 N) (.slice ao cn c2) (.slice qo on q2c))
          have HGF := Lib.hid (grown_four wr ro (.int .i64 P) (.int .i64 N) (.slice ao cn c2) (.slice qo on q2c))
          generalize hwf : (((wr.setCell ⟨ro, 0, none⟩ (.int .i64 P)).setCell ⟨ro, 1, none⟩ (.int .i64 N)).setCell ⟨ro, 2, none⟩ (.slice ao cn c2)).setCell ⟨ro, 3, none⟩ (.slice qo on q2c) = wf
          rw [hwf] at HRS HGF
          clear hwf e0 e1 e2 e3 r0 r1 r2 r3 f0 f1 f2 f3
          have HC2 := Lib.hid (HCO.out.grown HGF.out (fun q e => .inl (by cases e; exact HP.out.hi2)) (fun q e => .inl (by cases e; exact HP.out.hi2)))
          have HO2 := Lib.hid (HOD.out.grown HGF.out (fun q e => .inl (by cases e; exact HP.out.hi2)) (fun q e => .inl (by cases e; exact HP.out.hi2)))
          have HBW := Lib.hid (HP.out.bw.grown HGF.out HP.out.bw.size (fun q e => by cases e; exact HP.out.lo2))
          have r0 : wf.cell? ⟨ro, 0, none⟩ = some (.int .i64 P) := cell_block HRS.out 0
          have r1 : wf.cell? ⟨ro, 1, none⟩ = some (.int .i64 N) := cell_block HRS.out 1
          have r2 : wf.cell? ⟨ro, 2, none⟩ = some (.slice ao cn c2) := cell_block HRS.out 2
          have r3 : wf.cell? ⟨ro, 3, none⟩ = some (.slice qo on q2c) := cell_block HRS.out 3
          have hle : w.heap.size ≤ b + 2 := by have := HLO.out; omega
          exact bodyPost_ret (v := .agg #[.int .i64 P, .int .i64 N, .slice ao cn c2, .slice qo on q2c]) (by simp [results, Tryd.results22, go_sem, r0, r1, r2, r3]) rfl ⟨_, _, rfl, Lib.hid ⟨HC2.out.mono hle, HO2.out.mono hle⟩, HBW⟩
end Go.Proofs.YtacpcokmgahjaaaDoor
