/- Contracts: Get, hullOf, inOrder. -/
import Derived.Test.YtacpcokmgahjaaaDoorG8
import Derived.BigQuiet
namespace Go.Proofs.YtacpcokmgahjaaaDoor
set_option linter.unusedVariables false
set_option linter.unusedSimpArgs false
open Go.ChangeShapes Go.WideShapes Go.ChangeAt Go.RowKit
def InR (i : Int) : Prop := -1099511627776 ≤ i ∧ i ≤ 1099511627776
def Told (i : Int) (G : List Sp) : Prop := InR i ∧ Fit G
set_option maxHeartbeats 1000000 in
theorem get_any (F : Fv) (i : Int) (w : World) (hF : F.At w) (ok : F.Ok) :
    Calls Tryd.prog 17 #[F.v, .int .i64 i] w fun e w' => ∃ (v : Value) (k : Int), e = .returned (.tuple #[v, .int .i64 k]) ∧ Below w.heap.size w w' ∧ Hid ((Told i (gr F i) ∧ k = 0 ∧ w'.ownsRow w.heap.size 42 2 v (gr F i).length (spCells (gr F i))) ∨ (¬ Told i (gr F i) ∧ k = 20 ∧ v = .slice none 0 0)) := by
  have HT := Lib.hid (fun W h h1 h2 => ticks_any F i W h ok h1 h2)
  clear ok
  obtain ⟨G, hG⟩ : ∃ g, gr F i = g := ⟨_, rfl⟩
  rw [hG] at HT ⊢
  clear hG
  obtain ⟨P, N, co, cn, cc, oo, on, oc, cs, os⟩ := F
  have LC : Hid (cs.length = cn) := Lib.hid hF.core.len
  have LO : Hid (os.length = on) := Lib.hid hF.odd.len
  have hmc : cn ≤ 9223372036854775807 := Nat.le_trans hF.core.le hF.core.top
  have hmo : on ≤ 9223372036854775807 := Nat.le_trans hF.odd.le hF.odd.top
  obtain ⟨b, hb⟩ : ∃ b, w.heap.size = b := ⟨_, rfl⟩
  obtain ⟨wb, hwb⟩ : ∃ wb, w.alloc (.cells #[.int .i64 P, .int .i64 N, .slice co cn cc, .slice oo on oc] 29) = wb := ⟨_, rfl⟩
  have HBB : Hid (Fbox ⟨P, N, co, cn, cc, oo, on, oc, cs, os⟩ w wb b) := Lib.hid (by rw [← hwb, ← hb]; exact fbox_new hF)
  clear hF
  show Calls Tryd.prog 17 #[.agg #[.int .i64 P, .int .i64 N, .slice co cn cc, .slice oo on oc], .int .i64 i] w _
  go_enter Tryd.func17, Tryd.ntmps17
  go_upto_region 1 with fail
  clear hwb hb
  have e0 : wb.cell? ⟨b, 0, none⟩ = some (.int .i64 P) := HBB.out.c0
  have e1 : wb.cell? ⟨b, 1, none⟩ = some (.int .i64 N) := HBB.out.c1
  have e2 : wb.cell? ⟨b, 2, none⟩ = some (.slice co cn cc) := HBB.out.c2
  have e3 : wb.cell? ⟨b, 3, none⟩ = some (.slice oo on oc) := HBB.out.c3
  have HT : Hid (∀ W, Fv.At ⟨P, N, co, cn, cc, oo, on, oc, cs, os⟩ W → -9223372036854775808 ≤ i → i ≤ 9223372036854775807 → Calls Tryd.prog 33 #[.agg #[.int .i64 P, .int .i64 N, .slice co cn cc, .slice oo on oc], .int .i64 i] W fun e w' => ∃ (v : Value) (k : Int), e = .returned (.tuple #[v, .int .i64 k]) ∧ Below W.heap.size W w' ∧ Hid ((Fit G ∧ k = 0 ∧ w'.ownsRow W.heap.size 42 2 v G.length (spCells G)) ∨ (¬ Fit G ∧ k = 20 ∧ v = .slice none 0 0))) := HT
  by_cases h1 : i < -1099511627776
  · have HN : Hid (¬ Told i G) := Lib.hid (fun h => by have := h.1.1; omega)
    go_wp2
    go_returns
    exact ⟨_, _, rfl, HBB.out.bw, Lib.hid (.inr ⟨HN.out, rfl, rfl⟩)⟩
  · by_cases h2 : 1099511627776 < i
    · have HN : Hid (¬ Told i G) := Lib.hid (fun h => by have := h.1.2; omega)
      go_wp2
      go_returns
      exact ⟨_, _, rfl, HBB.out.bw, Lib.hid (.inr ⟨HN.out, rfl, rfl⟩)⟩
    · have HI : Hid (InR i) := Lib.hid ⟨by omega, by omega⟩
      go_wp2_with fail
      (with_reducible refine (HT.out _ HBB.out.at_ (by omega) (by omega)).mono ?_)
      rintro e w2 ⟨v, k, rfl, q, HV⟩
      have HSZ := Lib.hid HBB.out.bw.size
      have HBW := Lib.hid (HBB.out.bw.trans (q.mono HBB.out.bw.size))
      clear q
      go_wp2
      go_returns
      refine ⟨v, k, rfl, HBW.out, Lib.hid ?_⟩
      rcases HV.out with ⟨z1, z2, z3⟩ | ⟨z1, z2, z3⟩
      · exact .inl ⟨⟨HI.out, z1⟩, z2, own_base z3 HSZ.out⟩
      · exact .inr ⟨fun h => z1 h.2, z2, z3⟩
theorem free_keep {w w' : World} {a : Addr} {v : Value} (h : w.frozen? a = false) (c : w.cell? a = some v) (b : Below w.heap.size w w') : w'.frozen? a = false := by
  rw [← h]
  unfold World.frozen?
  rw [b.block a.block (cell_here c)]
set_option maxHeartbeats 1000000 in
theorem hullOf_any (F : Fv) (i : Int) (w : World) (hF : F.At w) (ok : F.Ok) (hi1 : -9223372036854775808 ≤ i) (hi2 : i ≤ 9223372036854775807) :
    Calls Tryd.prog 55 #[F.v, .int .i64 i] w fun e w' => ∃ (x y k : Int), e = .returned (.tuple #[.agg #[.int .i64 x, .int .i64 y], .int .i64 k]) ∧ Below w.heap.size w w' ∧ Hid ((Fit (gr F i) ∧ k = 0 ∧ x = hullA (gr F i) ∧ y = hullB (gr F i)) ∨ (¬ Fit (gr F i) ∧ k = 20)) := by
  have HT := Lib.hid (fun W h => ticks_any F i W h ok hi1 hi2)
  clear ok
  obtain ⟨G, hG⟩ : ∃ g, gr F i = g := ⟨_, rfl⟩
  rw [hG] at HT ⊢
  clear hG
  obtain ⟨P, N, co, cn, cc, oo, on, oc, cs, os⟩ := F
  have LC : Hid (cs.length = cn) := Lib.hid hF.core.len
  have LO : Hid (os.length = on) := Lib.hid hF.odd.len
  have hmc : cn ≤ 9223372036854775807 := Nat.le_trans hF.core.le hF.core.top
  have hmo : on ≤ 9223372036854775807 := Nat.le_trans hF.odd.le hF.odd.top
  obtain ⟨b, hb⟩ : ∃ b, w.heap.size = b := ⟨_, rfl⟩
  obtain ⟨wb, hwb⟩ : ∃ wb, w.alloc (.cells #[.int .i64 P, .int .i64 N, .slice co cn cc, .slice oo on oc] 29) = wb := ⟨_, rfl⟩
  have HBB : Hid (Fbox ⟨P, N, co, cn, cc, oo, on, oc, cs, os⟩ w wb b) := Lib.hid (by rw [← hwb, ← hb]; exact fbox_new hF)
  clear hF
  show Calls Tryd.prog 55 #[.agg #[.int .i64 P, .int .i64 N, .slice co cn cc, .slice oo on oc], .int .i64 i] w _
  go_enter Tryd.func55, Tryd.ntmps55
  go_upto_region 1 with fail
  clear hwb hb
  have HT : Hid (∀ W, Fv.At ⟨P, N, co, cn, cc, oo, on, oc, cs, os⟩ W → Calls Tryd.prog 33 #[.agg #[.int .i64 P, .int .i64 N, .slice co cn cc, .slice oo on oc], .int .i64 i] W fun e w' => ∃ (v : Value) (k : Int), e = .returned (.tuple #[v, .int .i64 k]) ∧ Below W.heap.size W w' ∧ Hid ((Fit G ∧ k = 0 ∧ w'.ownsRow W.heap.size 42 2 v G.length (spCells G)) ∨ (¬ Fit G ∧ k = 20 ∧ v = .slice none 0 0))) := HT
  obtain ⟨rb, hrb⟩ : ∃ q, wb.heap.size = q := ⟨_, rfl⟩
  obtain ⟨wc, hwc⟩ : ∃ q, wb.alloc (.cells #[.int .i64 0, .int .i64 0] 42) = q := ⟨_, rfl⟩
  have HCB : Hid (Below wb.heap.size wb wc) := Lib.hid (by rw [← hwc]; exact (Below.refl _ wb).alloc (Nat.le_refl _) _)
  have g0 : wc.cell? ⟨rb, 0, none⟩ = some (.int .i64 0) := by rw [← hwc, ← hrb]; exact (box_cells wb (.int .i64 0) (.int .i64 0) 42).1
  have g1 : wc.cell? ⟨rb, 1, none⟩ = some (.int .i64 0) := by rw [← hwc, ← hrb]; exact (box_cells wb (.int .i64 0) (.int .i64 0) 42).2
  have f0 : wc.frozen? ⟨rb, 0, none⟩ = false := by rw [← hwc, ← hrb]; exact box_free wb (.int .i64 0) (.int .i64 0) 42 0
  have f1 : wc.frozen? ⟨rb, 1, none⟩ = false := by rw [← hwc, ← hrb]; exact box_free wb (.int .i64 0) (.int .i64 0) 42 1
  have HRB : Hid (w.heap.size ≤ rb) := Lib.hid (by rw [← hrb]; exact HBB.out.bw.size)
  rw [hwc, hrb]
  clear hwc hrb
  have HBB := Lib.hid (HBB.out.keep HCB.out)
  clear HCB
  have e0 : wc.cell? ⟨b, 0, none⟩ = some (.int .i64 P) := HBB.out.c0
  have e1 : wc.cell? ⟨b, 1, none⟩ = some (.int .i64 N) := HBB.out.c1
  have e2 : wc.cell? ⟨b, 2, none⟩ = some (.slice co cn cc) := HBB.out.c2
  have e3 : wc.cell? ⟨b, 3, none⟩ = some (.slice oo on oc) := HBB.out.c3
  go_wp2_with fail
  (with_reducible refine (HT.out _ HBB.out.at_).mono ?_)
  rintro e w2 ⟨v, k, rfl, q, HV⟩
  have f0 := free_keep f0 g0 q
  have f1 := free_keep f1 g1 q
  have g0 := cell_keep g0 q
  have g1 := cell_keep g1 q
  have HBW := Lib.hid (HBB.out.bw.trans (q.mono HBB.out.bw.size))
  clear q e0 e1 e2 e3 HBB HT
  obtain ⟨ao, n, c, L, rfl, HS, HV2⟩ : ∃ ao n c L, v = .slice ao n c ∧ Hid (SpAt w2 ao n c L) ∧ Hid ((Fit G ∧ k = 0 ∧ L = G) ∨ (¬ Fit G ∧ k = 20)) := by
    rcases HV.out with ⟨z1, z2, z3⟩ | ⟨z1, z2, z3⟩
    · obtain ⟨ao, c, h1, h2⟩ := own_sp rfl z3
      exact ⟨ao, _, c, G, h1, Lib.hid h2, Lib.hid (.inl ⟨z1, z2, rfl⟩)⟩
    · exact ⟨none, 0, 0, [], z3, Lib.hid (SpAt.nil _), Lib.hid (.inr ⟨z1, z2⟩)⟩
  clear HV
  have HH := Lib.hid (hull_v ao n c L w2 HS.out)
  go_wp2_with fail
  (with_reducible refine HH.out.mono ?_)
  rintro e w3 ⟨x, y, okk, rfl, HXY, q⟩
  have g0' := g0
  have g1' := g1
  have g0 := cell_keep g0 q
  have g1 := cell_keep g1 q
  have HBW := Lib.hid (HBW.out.trans (q.mono HBW.out.size))
  have f0 := free_keep f0 g0' q
  have f1 := free_keep f1 g1' q
  clear q HH HS
  have KA := (Below.refl _ w3).alloc (Nat.le_refl _) (.cells #[.int .i64 x, .int .i64 y] 42)
  have f0 := free_keep f0 g0 KA
  have f1 := free_keep f1 g1 KA
  have g0 := cell_keep g0 KA
  have g1 := cell_keep g1 KA
  have x0 := (box_cells w3 (.int .i64 x) (.int .i64 y) 42).1
  have x1 := (box_cells w3 (.int .i64 x) (.int .i64 y) 42).2
  have HBW := Lib.hid (HBW.out.trans (KA.mono HBW.out.size))
  clear KA
  go_wp2
  have HR := Lib.hid ((HBW.out.setCell (p := ⟨rb, 0, none⟩) HRB.out (.int .i64 x)).setCell (p := ⟨rb, 1, none⟩) HRB.out (.int .i64 y))
  exact bodyPost_ret (v := .tuple #[.agg #[.int .i64 x, .int .i64 y], .int .i64 k]) (by simp [results, Tryd.results55, go_sem, g0, g1]) rfl ⟨x, y, k, rfl, HR.out, Lib.hid (by
    rcases HV2.out with ⟨z1, z2, z3⟩ | ⟨z1, z2⟩
    · exact .inl ⟨z1, z2, by rw [← z3]; exact HXY.out.1, by rw [← z3]; exact HXY.out.2.1⟩
    · exact .inr ⟨z1, z2⟩)⟩
theorem inOrder_any (x y st : Int) (ao : Option Addr) (n c : Nat) (l : List Sp) (w : World) (hl : SpAt w ao n c l) (hn : l ≠ []) (r : Bool) (hr : (if st < 0 then decide (y < hullA l) else decide (hullB l < x)) = r) :
    Calls Tryd.prog 56 #[.agg #[.int .i64 x, .int .i64 y], .slice ao n c, .int .i64 st] w fun e w' => e = .returned (.bool r) ∧ Below w.heap.size w w' := by
  have LN := hl.len
  have hmx : n ≤ 9223372036854775807 := Nat.le_trans hl.le hl.top
  have h1 : 0 < n := by have := List.length_pos_iff.2 hn; omega
  obtain ⟨g, p, rfl, hc⟩ := hl.here h1
  have hk : n - 1 < l.length := by omega
  have hm : 0 < l.length := by omega
  have KA := (Below.refl _ w).alloc (Nat.le_refl _) (.cells #[.int .i64 x, .int .i64 y] 42)
  have c1 := cell_keep (hc (n - 1) hk).2 KA
  have d1 := cell_keep (hc 0 hm).1 KA
  have v1 := (box_cells w (.int .i64 x) (.int .i64 y) 42).1
  have v2 := (box_cells w (.int .i64 x) (.int .i64 y) 42).2
  have HB := Lib.hid KA
  have e1 : hullA l = l[0].1 := by unfold hullA; rw [List.getD_eq_getElem?_getD, List.getElem?_eq_getElem hm]; rfl
  have e2 : hullB l = l[n - 1].2 := by unfold hullB; rw [LN, List.getD_eq_getElem?_getD, List.getElem?_eq_getElem hk]; rfl
  rw [e1, e2] at hr
  obtain ⟨k, hkk⟩ : ∃ k, n - 1 = k := ⟨_, rfl⟩
  have e4 : IntKind.i64.wrap ((n : Int) - 1) = (k : Int) := by rw [IntWalk.i64_in _ (by omega)]; omega
  have k0 : (0 : Int) ≤ (k : Int) := by omega
  have k1 : (k : Int) < (n : Int) := by omega
  have k3 : (0 : Int) < (n : Int) := by omega
  obtain ⟨X, hX⟩ : ∃ z, l[n - 1].2 = z := ⟨_, rfl⟩
  obtain ⟨Y, hY⟩ : ∃ z, l[0].1 = z := ⟨_, rfl⟩
  rw [hX, hkk] at c1
  rw [hY] at d1
  rw [hX, hY] at hr
  simp only [Nat.zero_mul, Nat.add_zero] at d1
  obtain ⟨bx, hbx⟩ : ∃ q, w.heap.size = q := ⟨_, rfl⟩
  obtain ⟨wb, hwb⟩ : ∃ q, w.alloc (.cells #[.int .i64 x, .int .i64 y] 42) = q := ⟨_, rfl⟩
  have HB : Hid (Below w.heap.size w wb) := Lib.hid (by rw [← hwb]; exact HB.out)
  rw [hwb] at c1 d1 v1 v2
  rw [hbx] at v1 v2
  have HE := Lib.hid hr
  clear hX hY hkk hc hl LN h1 hk hm e1 e2 KA hn hr
  by_cases hs : st < 0
  · rw [if_pos hs] at HE
    go_enter Tryd.func56, Tryd.ntmps56
    go_upto_region 1 with fail
    clear hwb hbx
    go_wp2
    go_quiet (fail)
    go_wp2
    go_returns
    exact ⟨ret_bool HE.out, below_drewN HB.out _⟩
  · rw [if_neg hs] at HE
    go_enter Tryd.func56, Tryd.ntmps56
    go_upto_region 1 with fail
    clear hwb hbx
    go_wp2
    go_quiet (fail)
    go_wp2
    go_returns
    exact ⟨ret_bool HE.out, below_drewN HB.out _⟩
end Go.Proofs.YtacpcokmgahjaaaDoor
