/- TagRanges: the walk. -/
import Derived.Test.YtaobhhgalkkmaaaT11
namespace Go.Proofs.Ytaobhhgalkkmaaa
set_option linter.unusedVariables false
set_option linter.unusedSimpArgs false
open Go.ChangeShapes Go.WideShapes Go.ChangeAt Go.RowKit
theorem tmod_small {a x : Int} (h : a.tmod 1099511627776 = x) : -1099511627776 ≤ x ∧ x ≤ 1099511627776 := by
  have r1 : (a.tmod 1099511627776).natAbs < (1099511627776 : Int).natAbs := by rw [Int.natAbs_tmod]; exact Nat.mod_lt _ (by decide)
  rw [h] at r1
  omega
set_option maxRecDepth 8000 in
set_option maxHeartbeats 8000000 in
theorem ranges_walk (F : Fv) (a b0 lo hi : Int) (hl hh : Bool) (w : World) (hF : F.At w) (a1 : -9223372036854775808 ≤ a) (a2 : a ≤ 9223372036854775807) (b01 : -9223372036854775808 ≤ b0) (b02 : b0 ≤ 9223372036854775807) (lo1 : -9223372036854775808 ≤ lo) (lo2 : lo ≤ 9223372036854775807) (hi1 : -9223372036854775808 ≤ hi) (hi2 : hi ≤ 9223372036854775807) : Calls Try.prog 4 #[F.v, .int .i64 a, .int .i64 b0, .agg #[.int .i64 lo, .int .i64 hi, .bool hl, .bool hh]] w fun e w' => e = .returned (.bool true) ∧ Below w.heap.size w w' := by
  have HAW := Lib.hid (fun W => awake_any W)
  obtain ⟨s1, hs1⟩ : ∃ r : Bool, r = true ↔ F.Small := by classical exact ⟨decide _, decide_eq_true_iff⟩
  obtain ⟨s2, hs2⟩ : ∃ r : Bool, r = true ↔ F.Rt := by classical exact ⟨decide _, decide_eq_true_iff⟩
  have HS1 := Lib.hid hs1
  have HS2 := Lib.hid hs2
  have HC1 := Lib.hid (fun W (h : F.At W) => small_any F W h s1 hs1)
  have HC2 := Lib.hid (fun (q : s1 = true) W (h : F.At W) => right_small F W h (hs1.1 q) s2 hs2)
  clear hs1 hs2
  obtain ⟨x, hx⟩ : ∃ x, a.tmod 1099511627776 = x := ⟨_, rfl⟩
  obtain ⟨y, hy⟩ : ∃ y, b0.tmod 1099511627776 = y := ⟨_, rfl⟩
  have x1 : -1099511627776 ≤ x ∧ x ≤ 1099511627776 := tmod_small hx
  have y1 : -1099511627776 ≤ y ∧ y ≤ 1099511627776 := tmod_small hy
  have HOWN := Lib.hid (tr_own x1.1 x1.2 y1.1 y1.2)
  obtain ⟨P, N, co, cn, cc, oo, on, oc, cs, os⟩ := F
  have LC : Hid (cs.length = cn) := Lib.hid hF.core.len
  have LO : Hid (os.length = on) := Lib.hid hF.odd.len
  have hmc : cn ≤ 9223372036854775807 := Nat.le_trans hF.core.le hF.core.top
  have hmo : on ≤ 9223372036854775807 := Nat.le_trans hF.odd.le hF.odd.top
  obtain ⟨b, hb⟩ : ∃ b, w.heap.size = b := ⟨_, rfl⟩
  obtain ⟨br, hbr⟩ : ∃ br, b + 1 = br := ⟨_, rfl⟩
  obtain ⟨wb, hwb⟩ : ∃ wb, (w.alloc (.cells #[.int .i64 P, .int .i64 N, .slice co cn cc, .slice oo on oc] 25)).alloc (.cells #[.int .i64 lo, .int .i64 hi, .bool hl, .bool hh] 34) = wb := ⟨_, rfl⟩
  have HBB : Hid (Fbox ⟨P, N, co, cn, cc, oo, on, oc, cs, os⟩ w wb b) := Lib.hid (by rw [← hwb, ← hb]; exact (fbox_new hF).keep ((Below.refl _ _).alloc (Nat.le_refl _) _))
  have HRG : Hid (wb.heap[br]? = some (.cells #[.int .i64 lo, .int .i64 hi, .bool hl, .bool hh] 34 (0, 0))) := Lib.hid (by rw [← hwb]; exact heap_at (by simp; omega))
  clear hF
  show Calls Try.prog 4 #[.agg #[.int .i64 P, .int .i64 N, .slice co cn cc, .slice oo on oc], .int .i64 a, .int .i64 b0, .agg #[.int .i64 lo, .int .i64 hi, .bool hl, .bool hh]] w _
  go_enter Try.func4, Try.ntmps4
  go_upto_region 2 with fail
  clear hwb hb hbr
  have HS1 : Hid (s1 = true ↔ Fv.Small ⟨P, N, co, cn, cc, oo, on, oc, cs, os⟩) := HS1
  have HS2 : Hid (s2 = true ↔ Fv.Rt ⟨P, N, co, cn, cc, oo, on, oc, cs, os⟩) := HS2
  have HLN : Hid ((Fv.cs ⟨P, N, co, cn, cc, oo, on, oc, cs, os⟩).length = Fv.cn ⟨P, N, co, cn, cc, oo, on, oc, cs, os⟩) := Lib.hid LC.out
  have HC1 : Hid (∀ W, Fv.At ⟨P, N, co, cn, cc, oo, on, oc, cs, os⟩ W → Calls Try.prog 6 #[.agg #[.int .i64 P, .int .i64 N, .slice co cn cc, .slice oo on oc]] W fun e w' => e = .returned (.bool s1) ∧ Below W.heap.size W w') := HC1
  have HC2 : Hid (s1 = true → ∀ W, Fv.At ⟨P, N, co, cn, cc, oo, on, oc, cs, os⟩ W → Calls Try.prog 7 #[.agg #[.int .i64 P, .int .i64 N, .slice co cn cc, .slice oo on oc]] W fun e w' => e = .returned (.int .i64 (rcode s2)) ∧ Below W.heap.size W w') := HC2
  try clear hx hy
  have e0 : wb.cell? ⟨b, 0, none⟩ = some (.int .i64 P) := HBB.out.c0
  have e1 : wb.cell? ⟨b, 1, none⟩ = some (.int .i64 N) := HBB.out.c1
  have e2 : wb.cell? ⟨b, 2, none⟩ = some (.slice co cn cc) := HBB.out.c2
  have e3 : wb.cell? ⟨b, 3, none⟩ = some (.slice oo on oc) := HBB.out.c3
  go_wp2_with fail
  (with_reducible refine (HC1.out _ HBB.out.at_).mono ?_)
  rintro e w1 ⟨rfl, q⟩
  have HBB := Lib.hid (HBB.out.keep q)
  have HRG := Lib.hid (heap_keep HRG.out q)
  clear q e0 e1 e2 e3 HC1
  cases s1
  · clear HC2 HS1 HS2
    go_wp2_with fail
    (with_reducible refine (HAW.out _).mono ?_)
    rintro e w9 ⟨rfl, q⟩
    have HBB := Lib.hid (HBB.out.keep q)
    have HRG := Lib.hid (heap_keep HRG.out q)
    clear q
    go_wp2
    go_returns
    exact ⟨rfl, HBB.out.bw⟩
  · have HC3 := Lib.hid (HC2.out (by first | rfl | trivial))
    clear HC2
    have e0 : w1.cell? ⟨b, 0, none⟩ = some (.int .i64 P) := HBB.out.c0
    have e1 : w1.cell? ⟨b, 1, none⟩ = some (.int .i64 N) := HBB.out.c1
    have e2 : w1.cell? ⟨b, 2, none⟩ = some (.slice co cn cc) := HBB.out.c2
    have e3 : w1.cell? ⟨b, 3, none⟩ = some (.slice oo on oc) := HBB.out.c3
    go_wp2_with fail
    (with_reducible refine (HC3.out _ HBB.out.at_).mono ?_)
    rintro e w2 ⟨rfl, q⟩
    have HBB := Lib.hid (HBB.out.keep q)
    have HRG := Lib.hid (heap_keep HRG.out q)
    clear q e0 e1 e2 e3 HC3
    cases s2
    · have tz : rcode false = 50 := rfl
      clear HS1 HS2
      go_wp2_with fail
      (with_reducible refine (HAW.out _).mono ?_)
      rintro e w9 ⟨rfl, q⟩
      have HBB := Lib.hid (HBB.out.keep q)
      have HRG := Lib.hid (heap_keep HRG.out q)
      clear q
      go_wp2
      go_returns
      exact ⟨rfl, HBB.out.bw⟩
    · have tz : rcode true = 0 := rfl
      have HSM : Hid (Fv.Small ⟨P, N, co, cn, cc, oo, on, oc, cs, os⟩) := Lib.hid (HS1.out.1 (by first | rfl | trivial))
      have HRT : Hid (Fv.Rt ⟨P, N, co, cn, cc, oo, on, oc, cs, os⟩) := Lib.hid (HS2.out.1 (by first | rfl | trivial))
      have HOK : Hid (Fv.Ok ⟨P, N, co, cn, cc, oo, on, oc, cs, os⟩) := Lib.hid (HRT.out.ok HSM.out)
      have HCN : Hid (cn ≤ 10000) := Lib.hid (Nat.le_trans HSM.out.1 (by decide))
      clear HS1 HS2
      have HW := Lib.hid HBB.out.bw
      obtain ⟨g1, hg1⟩ : ∃ g, w2.heap.size = g := ⟨_, rfl⟩
      obtain ⟨bn, hbn⟩ : ∃ g, g1 + 1 = g := ⟨_, rfl⟩
      obtain ⟨gt, hgt⟩ : ∃ g, bn + 1 = g := ⟨_, rfl⟩
      obtain ⟨bt, hbt⟩ : ∃ g, gt + 1 = g := ⟨_, rfl⟩
      have e0 : w2.cell? ⟨b, 0, none⟩ = some (.int .i64 P) := HBB.out.c0
      have e1 : w2.cell? ⟨b, 1, none⟩ = some (.int .i64 N) := HBB.out.c1
      have e2 : w2.cell? ⟨b, 2, none⟩ = some (.slice co cn cc) := HBB.out.c2
      have e3 : w2.cell? ⟨b, 3, none⟩ = some (.slice oo on oc) := HBB.out.c3
      go_upto_region 7 with fail
      clear e0 e1 e2 e3
      obtain ⟨w3, hw3⟩ : ∃ W, (((w2.alloc (.cells #[.int .i64 P, .int .i64 N, .slice co cn cc, .slice oo on oc] 25)).alloc (.cells #[.int .i64 2, .slice (some ⟨g1, 0, none⟩) 1 1, .slice none 0 0] 38)).alloc (.cells #[.int .i64 x, .int .i64 y] 3)).alloc (.cells #[.slice (some ⟨gt, 0, none⟩) 2 2] 39) = W := ⟨_, rfl⟩
      have al : ∀ (W : World) (o : Obj) (j : Nat), j < W.heap.size → (W.alloc o).heap[j]? = W.heap[j]? := fun W o j hj => Below.heap_alloc W o j hj
      have K3 : Below w2.heap.size w2 w3 := by rw [← hw3]; exact ((((Below.refl _ w2).alloc (Nat.le_refl _) _).alloc (by simp) _).alloc (by simp; omega) _).alloc (by simp; omega) _
      have HTR : Hid (TR ⟨P, N, co, cn, cc, oo, on, oc, cs, os⟩ x y g1 gt bn bt w3) := Lib.hid ⟨HBB.out.at_.keep K3, by rw [← hw3, al _ _ _ (by simp; omega), al _ _ _ (by simp; omega), al _ _ _ (by simp; omega)]; exact heap_at hg1, by rw [← hw3, al _ _ _ (by simp; omega), al _ _ _ (by simp; omega)]; exact heap_at (by simp; omega), by rw [← hw3]; exact heap_at (by simp; omega), by rw [← hw3, al _ _ _ (by simp; omega)]; exact heap_at (by simp; omega)⟩
      have HBB := Lib.hid (HBB.out.keep K3)
      have HW := Lib.hid (HW.out.trans (K3.mono HW.out.size))
      have HRG := Lib.hid (heap_keep HRG.out K3)
      rw [hw3]
      clear hw3 al K3 hg1 hbn hgt hbt
      obtain ⟨ia, oa, hx⟩ := at_ex ⟨P, N, co, cn, cc, oo, on, oc, cs, os⟩ x
      obtain ⟨ib, ob, hy⟩ := at_ex ⟨P, N, co, cn, cc, oo, on, oc, cs, os⟩ y
      have Hx := Lib.hid hx
      have Hy := Lib.hid hy
      have HI1 := at_in hx
      have HI2 := at_in hy
      obtain ⟨d, hd⟩ : ∃ d, ib - ia = d := ⟨_, rfl⟩
      have HD := Lib.hid hd
      have d1 : -2199023255552 ≤ d ∧ d ≤ 2199023255552 := by omega
      have CD : Hid (∀ W, Fv.At ⟨P, N, co, cn, cc, oo, on, oc, cs, os⟩ W → Calls Try.prog 9 #[.agg #[.int .i64 P, .int .i64 N, .slice co cn cc, .slice oo on oc], .int .i64 x, .int .i64 y] W fun e w' => e = .returned (.tuple #[.int .i64 (if (oa && ob) then d else 0), .bool (oa && ob)]) ∧ Hid (Below W.heap.size W w')) := Lib.hid (fun W h => distance_any ⟨P, N, co, cn, cc, oo, on, oc, cs, os⟩ x y ia ib oa ob W h HRT.out HOK.out HCN.out (by omega) (by omega) (by omega) (by omega) hx hy _ _ rfl (by rw [hd]))
      obtain ⟨ok, hok⟩ : ∃ r, (oa && ob) = r := ⟨_, rfl⟩
      rw [hok] at CD
      have HOKB : Hid (ok = true ↔ oa = true ∧ ob = true) := Lib.hid (by rw [← hok]; simp)
      clear hx hy hd HI1 HI2 hok
      have e0 : w3.cell? ⟨b, 0, none⟩ = some (.int .i64 P) := HBB.out.c0
      have e1 : w3.cell? ⟨b, 1, none⟩ = some (.int .i64 N) := HBB.out.c1
      have e2 : w3.cell? ⟨b, 2, none⟩ = some (.slice co cn cc) := HBB.out.c2
      have e3 : w3.cell? ⟨b, 3, none⟩ = some (.slice oo on oc) := HBB.out.c3
      go_wp2_with fail
      (with_reducible refine (CD.out _ HBB.out.at_).mono ?_)
      rintro e w4 ⟨rfl, q⟩
      have HW := Lib.hid (HW.out.trans (q.out.mono HW.out.size))
      have HTR := Lib.hid (HTR.out.keep q.out)
      have HRG := Lib.hid (heap_keep HRG.out q.out)
      clear q e0 e1 e2 e3 CD HBB
      cases ok
      · have C0 : Hid (∀ W, TR ⟨P, N, co, cn, cc, oo, on, oc, cs, os⟩ x y g1 gt bn bt W → Calls Try.prog 10 #[.agg #[.int .i64 (0), .int .i64 (0), .bool false, .bool false], .pointer (some ⟨bn, 0, none⟩), .pointer (some ⟨bt, 0, none⟩)] W fun e w' => e = .returned (.bool false) ∧ Hid (Below W.heap.size W w')) := Lib.hid (fun W h => clo_any ⟨P, N, co, cn, cc, oo, on, oc, cs, os⟩ x y ia ib oa ob HRT.out HOK.out HCN.out Hx.out Hy.out HOWN.out g1 gt bn bt (0) (0) false false W h false (by constructor; (intro z; cases z); (intro z; have := HOKB.out.2 ⟨z.1, z.2.1⟩; cases this)))
        go_wp2_with fail
        (with_reducible refine (C0.out _ HTR.out).mono ?_)
        rintro e w5 ⟨rfl, q⟩
        have HW := Lib.hid (HW.out.trans (q.out.mono HW.out.size))
        have HTR := Lib.hid (HTR.out.keep q.out)
        have HRG := Lib.hid (heap_keep HRG.out q.out)
        clear q C0
        go_upto_region 10 with fail
        have r0 : w5.cell? ⟨br, 0, none⟩ = some (.int .i64 lo) := cell_block HRG.out 0
        have r1 : w5.cell? ⟨br, 1, none⟩ = some (.int .i64 hi) := cell_block HRG.out 1
        have HLT : Hid (br < w5.heap.size) := Lib.hid (Array.getElem?_eq_some_iff.1 HRG.out).1
        go_cut [16, 17] from 54 to 59 (fun s16 s17 wx => ∃ b16 b17, s16 = .pointer (some ⟨b16, 0, none⟩) ∧ s17 = .pointer (some ⟨b17, 0, none⟩) ∧ Hid (Below w5.heap.size w5 wx ∧ wx.heap[b16]? = some (.cells #[.int .i64 lo, .int .i64 0, .bool true, .bool false] 34 (0, 0)) ∧ wx.heap[b17]? = some (.cells #[.int .i64 0, .int .i64 hi, .bool false, .bool true] 34 (0, 0))))
        case first =>
          obtain ⟨n5, hn5⟩ : ∃ n, w5.heap.size = n := ⟨_, rfl⟩
          have m1 : br < n5 := by have := HLT.out; omega
          have m2 : ¬ br = n5 := by omega
          have m3 : ¬ br = n5 + 1 := by omega
          have m5 : ¬ n5 = br := by omega
          have m6 : ¬ n5 + 1 = br := by omega
          clear HLT
          go_region
          all_goals
            go_wp2
            go_meet
            case rel =>
              refine ⟨_, _, rfl, rfl, Lib.hid ?_⟩
              obtain ⟨t0, t1, t2⟩ := two hn5 _ _
              first | exact ⟨t0, t1, t2⟩ | exact ⟨t0, t2, t1⟩
        case rest =>
          obtain ⟨b16, b17, rfl, rfl, HQ⟩ := hcut
          have HW := Lib.hid (HW.out.trans (HQ.out.1.mono HW.out.size))
          have HTR := Lib.hid (HTR.out.keep HQ.out.1)
          have HRG := Lib.hid (heap_keep HRG.out HQ.out.1)
          have H16 := Lib.hid HQ.out.2.1
          have H17 := Lib.hid HQ.out.2.2
          clear HQ r0 r1 HLT
          obtain ⟨v6, hv6⟩ : ∃ v : World, v = wc := ⟨_, rfl⟩
          subst hv6
          obtain ⟨b18, hb18⟩ : ∃ b, v6.heap.size = b := ⟨_, rfl⟩
          have r0 : v6.cell? ⟨br, 0, none⟩ = some (.int .i64 lo) := cell_block HRG.out 0
          have r1 : v6.cell? ⟨br, 1, none⟩ = some (.int .i64 hi) := cell_block HRG.out 1
          go_upto_region 12 with fail
          obtain ⟨wl, hwl⟩ : ∃ W, v6.alloc (.cells #[.int .i64 lo, .int .i64 hi, .bool true, .bool true] 34) = W := ⟨_, rfl⟩
          have K6 : Below v6.heap.size v6 wl := by rw [← hwl]; exact (Below.refl _ _).alloc (Nat.le_refl _) _
          have H18 : Hid (wl.heap[b18]? = some (.cells #[.int .i64 lo, .int .i64 hi, .bool true, .bool true] 34 (0, 0))) := Lib.hid (by rw [← hwl]; exact heap_at hb18)
          have HW := Lib.hid (HW.out.trans (K6.mono HW.out.size))
          have HTR := Lib.hid (HTR.out.keep K6)
          have H16 := Lib.hid (heap_keep H16.out K6)
          have H17 := Lib.hid (heap_keep H17.out K6)
          try rw [hwl]
          try rw [hb18]
          clear hwl hb18 K6 r0 r1 HRG
          have HS : Hid (∀ W, TR ⟨P, N, co, cn, cc, oo, on, oc, cs, os⟩ x y g1 gt bn bt W → Below wl.heap.size wl W → W.cell? ⟨b16, 0, none⟩ = some (.int .i64 lo) ∧ W.cell? ⟨b16, 1, none⟩ = some (.int .i64 0) ∧ W.cell? ⟨b16, 2, none⟩ = some (.bool true) ∧ W.cell? ⟨b16, 3, none⟩ = some (.bool false) ∧ W.cell? ⟨b17, 0, none⟩ = some (.int .i64 0) ∧ W.cell? ⟨b17, 1, none⟩ = some (.int .i64 hi) ∧ W.cell? ⟨b17, 2, none⟩ = some (.bool false) ∧ W.cell? ⟨b17, 3, none⟩ = some (.bool true) ∧ W.cell? ⟨b18, 0, none⟩ = some (.int .i64 lo) ∧ W.cell? ⟨b18, 1, none⟩ = some (.int .i64 hi) ∧ W.cell? ⟨b18, 2, none⟩ = some (.bool true) ∧ W.cell? ⟨b18, 3, none⟩ = some (.bool true) ∧ Hid (TR ⟨P, N, co, cn, cc, oo, on, oc, cs, os⟩ x y g1 gt bn bt W ∧ Below wl.heap.size wl W)) := Lib.hid (fun W h k => ⟨cell_keep (cell_block H16.out 0) k, cell_keep (cell_block H16.out 1) k, cell_keep (cell_block H16.out 2) k, cell_keep (cell_block H16.out 3) k, cell_keep (cell_block H17.out 0) k, cell_keep (cell_block H17.out 1) k, cell_keep (cell_block H17.out 2) k, cell_keep (cell_block H17.out 3) k, cell_keep (cell_block H18.out 0) k, cell_keep (cell_block H18.out 1) k, cell_keep (cell_block H18.out 2) k, cell_keep (cell_block H18.out 3) k, Lib.hid ⟨h, k⟩⟩)
          go_cut [90] from 65 to 90 (fun s90 wx => s90 = .bool false ∧ Hid (Below wl.heap.size wl wx))
          case first =>
            have CL : Hid (∀ W, TR ⟨P, N, co, cn, cc, oo, on, oc, cs, os⟩ x y g1 gt bn bt W → Calls Try.prog 10 #[.agg #[.int .i64 (lo), .int .i64 (0), .bool true, .bool false], .pointer (some ⟨bn, 0, none⟩), .pointer (some ⟨bt, 0, none⟩)] W fun e w' => e = .returned (.bool false) ∧ Hid (Below W.heap.size W w')) := Lib.hid (fun W h => clo_any ⟨P, N, co, cn, cc, oo, on, oc, cs, os⟩ x y ia ib oa ob HRT.out HOK.out HCN.out Hx.out Hy.out HOWN.out g1 gt bn bt (lo) (0) true false W h false (by constructor; (intro z; cases z); (intro z; have := HOKB.out.2 ⟨z.1, z.2.1⟩; cases this)))
            have CH : Hid (∀ W, TR ⟨P, N, co, cn, cc, oo, on, oc, cs, os⟩ x y g1 gt bn bt W → Calls Try.prog 10 #[.agg #[.int .i64 (0), .int .i64 (hi), .bool false, .bool true], .pointer (some ⟨bn, 0, none⟩), .pointer (some ⟨bt, 0, none⟩)] W fun e w' => e = .returned (.bool false) ∧ Hid (Below W.heap.size W w')) := Lib.hid (fun W h => clo_any ⟨P, N, co, cn, cc, oo, on, oc, cs, os⟩ x y ia ib oa ob HRT.out HOK.out HCN.out Hx.out Hy.out HOWN.out g1 gt bn bt (0) (hi) false true W h false (by constructor; (intro z; cases z); (intro z; have := HOKB.out.2 ⟨z.1, z.2.1⟩; cases this)))
            have CB : Hid (∀ W, TR ⟨P, N, co, cn, cc, oo, on, oc, cs, os⟩ x y g1 gt bn bt W → Calls Try.prog 10 #[.agg #[.int .i64 (lo), .int .i64 (hi), .bool true, .bool true], .pointer (some ⟨bn, 0, none⟩), .pointer (some ⟨bt, 0, none⟩)] W fun e w' => e = .returned (.bool false) ∧ Hid (Below W.heap.size W w')) := Lib.hid (fun W h => clo_any ⟨P, N, co, cn, cc, oo, on, oc, cs, os⟩ x y ia ib oa ob HRT.out HOK.out HCN.out Hx.out Hy.out HOWN.out g1 gt bn bt (lo) (hi) true true W h false (by constructor; (intro z; cases z); (intro z; have := HOKB.out.2 ⟨z.1, z.2.1⟩; cases this)))
            clear HOKB HRT HOK HCN Hx Hy HOWN HLN
            refine wp_region_held_drew (S := (fun W => W.cell? ⟨b16, 0, none⟩ = some (.int .i64 lo) ∧ W.cell? ⟨b16, 1, none⟩ = some (.int .i64 0) ∧ W.cell? ⟨b16, 2, none⟩ = some (.bool true) ∧ W.cell? ⟨b16, 3, none⟩ = some (.bool false) ∧ W.cell? ⟨b17, 0, none⟩ = some (.int .i64 0) ∧ W.cell? ⟨b17, 1, none⟩ = some (.int .i64 hi) ∧ W.cell? ⟨b17, 2, none⟩ = some (.bool false) ∧ W.cell? ⟨b17, 3, none⟩ = some (.bool true) ∧ W.cell? ⟨b18, 0, none⟩ = some (.int .i64 lo) ∧ W.cell? ⟨b18, 1, none⟩ = some (.int .i64 hi) ∧ W.cell? ⟨b18, 2, none⟩ = some (.bool true) ∧ W.cell? ⟨b18, 3, none⟩ = some (.bool true) ∧ Hid (TR ⟨P, N, co, cn, cc, oo, on, oc, cs, os⟩ x y g1 gt bn bt W ∧ Below wl.heap.size wl W))) (by kernel_rfl) ?_ (fun hHeld => ?_)
            · exact HS.out _ (HTR.out.keep (Below.refl _ _).drew) (Below.refl _ _).drew
            refine wpAnyH_take (i := 0) (oi := _) (v := ?_) rfl (by kernel_rfl) (by kernel_rfl) (by kernel_rfl) (fun _ _ _ h => h) (Or.inl ⟨by kernel_rfl, ?_⟩) (by assumption) ?_
            rotate_left 1
            focus (intro wq hSw; (try dsimp only at hSw); obtain ⟨s0, s1, s2, s3, s4, s5, s6, s7, s8, s9, s10, s11, s12⟩ := hSw; go_simp; (try with_reducible rfl); done)
            try simp only [List.getElem_toArray, List.getElem_cons_zero, List.getElem_cons_succ, Act.put, List.setIfInBounds_toArray, List.set_cons_zero, List.set_cons_succ]
            refine wpAnyH_take (i := 1) (oi := _) (v := ?_) rfl (by kernel_rfl) (by kernel_rfl) (by kernel_rfl) (fun _ _ _ h => h) (Or.inl ⟨by kernel_rfl, ?_⟩) (by assumption) ?_
            rotate_left 1
            focus (intro wq hSw; (try dsimp only at hSw); obtain ⟨s0, s1, s2, s3, s4, s5, s6, s7, s8, s9, s10, s11, s12⟩ := hSw; go_simp; (try with_reducible rfl); done)
            try simp only [List.getElem_toArray, List.getElem_cons_zero, List.getElem_cons_succ, Act.put, List.setIfInBounds_toArray, List.set_cons_zero, List.set_cons_succ]
            refine wpAnyH_ready (rs := [2]) (by kernel_rfl) (by simp) ?_
            refine AllReadyH.cons (o := _) rfl (fun K hK => ?_) AllReadyH.nil
            rw [if_pos (by kernel_rfl)]
            go_simp
            (go_at_call 10; (with_reducible refine (CL.out _ hHeld.2.2.2.2.2.2.2.2.2.2.2.2.out.1).mono ?_); rintro e z67 ⟨rfl, q⟩; have q := q.out)
            first | refine hK.out _ _ ?_ (fun hHeld => ?_) | (go_wp2_with fail; refine hK.out _ _ ?_ (fun hHeld => ?_))
            · exact HS.out _ (hHeld.2.2.2.2.2.2.2.2.2.2.2.2.out.1.keep q) (hHeld.2.2.2.2.2.2.2.2.2.2.2.2.out.2.trans (q.mono hHeld.2.2.2.2.2.2.2.2.2.2.2.2.out.2.size))
            clear hK K
            try simp only [List.getElem_toArray, List.getElem_cons_zero, List.getElem_cons_succ, Act.put, List.setIfInBounds_toArray, List.set_cons_zero, List.set_cons_succ]
            refine wpAnyH_take (i := 3) (oi := _) (v := ?_) rfl (by kernel_rfl) (by kernel_rfl) (by kernel_rfl) (fun _ _ _ h => h) (Or.inl ⟨by kernel_rfl, ?_⟩) (by assumption) ?_
            rotate_left 1
            focus (intro wq hSw; (try dsimp only at hSw); obtain ⟨s0, s1, s2, s3, s4, s5, s6, s7, s8, s9, s10, s11, s12⟩ := hSw; go_simp; (try with_reducible rfl); done)
            try simp only [List.getElem_toArray, List.getElem_cons_zero, List.getElem_cons_succ, Act.put, List.setIfInBounds_toArray, List.set_cons_zero, List.set_cons_succ]
            refine wpAnyH_take (i := 4) (oi := _) (v := ?_) rfl (by kernel_rfl) (by kernel_rfl) (by kernel_rfl) (fun _ _ _ h => h) (Or.inl ⟨by kernel_rfl, ?_⟩) (by assumption) ?_
            rotate_left 1
            focus (intro wq hSw; (try dsimp only at hSw); obtain ⟨s0, s1, s2, s3, s4, s5, s6, s7, s8, s9, s10, s11, s12⟩ := hSw; go_simp; (try with_reducible rfl); done)
            try simp only [List.getElem_toArray, List.getElem_cons_zero, List.getElem_cons_succ, Act.put, List.setIfInBounds_toArray, List.set_cons_zero, List.set_cons_succ]
            refine wpAnyH_take (i := 5) (oi := _) (v := ?_) rfl (by kernel_rfl) (by kernel_rfl) (by kernel_rfl) (fun _ _ _ h => h) (Or.inl ⟨by kernel_rfl, ?_⟩) (by assumption) ?_
            rotate_left 1
            focus (intro wq hSw; (try dsimp only at hSw); obtain ⟨s0, s1, s2, s3, s4, s5, s6, s7, s8, s9, s10, s11, s12⟩ := hSw; go_simp; (try with_reducible rfl); done)
            try simp only [List.getElem_toArray, List.getElem_cons_zero, List.getElem_cons_succ, Act.put, List.setIfInBounds_toArray, List.set_cons_zero, List.set_cons_succ]
            refine wpAnyH_ready (rs := [6]) (by kernel_rfl) (by simp) ?_
            refine AllReadyH.cons (o := _) rfl (fun K hK => ?_) AllReadyH.nil
            rw [if_pos (by kernel_rfl)]
            go_simp
            (go_at_call 10; (with_reducible refine (CH.out _ hHeld.2.2.2.2.2.2.2.2.2.2.2.2.out.1).mono ?_); rintro e z71 ⟨rfl, q⟩; have q := q.out)
            first | refine hK.out _ _ ?_ (fun hHeld => ?_) | (go_wp2_with fail; refine hK.out _ _ ?_ (fun hHeld => ?_))
            · exact HS.out _ (hHeld.2.2.2.2.2.2.2.2.2.2.2.2.out.1.keep q) (hHeld.2.2.2.2.2.2.2.2.2.2.2.2.out.2.trans (q.mono hHeld.2.2.2.2.2.2.2.2.2.2.2.2.out.2.size))
            clear hK K
            try simp only [List.getElem_toArray, List.getElem_cons_zero, List.getElem_cons_succ, Act.put, List.setIfInBounds_toArray, List.set_cons_zero, List.set_cons_succ]
            refine wpAnyH_take (i := 7) (oi := _) (v := ?_) rfl (by kernel_rfl) (by kernel_rfl) (by kernel_rfl) (fun _ _ _ h => h) (Or.inl ⟨by kernel_rfl, ?_⟩) (by assumption) ?_
            rotate_left 1
            focus (intro wq hSw; (try dsimp only at hSw); obtain ⟨s0, s1, s2, s3, s4, s5, s6, s7, s8, s9, s10, s11, s12⟩ := hSw; go_simp; (try with_reducible rfl); done)
            try simp only [List.getElem_toArray, List.getElem_cons_zero, List.getElem_cons_succ, Act.put, List.setIfInBounds_toArray, List.set_cons_zero, List.set_cons_succ]
            refine wpAnyH_take (i := 8) (oi := _) (v := ?_) rfl (by kernel_rfl) (by kernel_rfl) (by kernel_rfl) (fun _ _ _ h => h) (Or.inl ⟨by kernel_rfl, ?_⟩) (by assumption) ?_
            rotate_left 1
            focus (intro wq hSw; (try dsimp only at hSw); obtain ⟨s0, s1, s2, s3, s4, s5, s6, s7, s8, s9, s10, s11, s12⟩ := hSw; go_simp; (try with_reducible rfl); done)
            try simp only [List.getElem_toArray, List.getElem_cons_zero, List.getElem_cons_succ, Act.put, List.setIfInBounds_toArray, List.set_cons_zero, List.set_cons_succ]
            refine wpAnyH_take (i := 9) (oi := _) (v := undef) rfl (by kernel_rfl) (by kernel_rfl) (by kernel_rfl) (fun _ _ _ h => h) (Or.inr ⟨by kernel_rfl, rfl⟩) (by assumption) ?_
            try simp only [List.getElem_toArray, List.getElem_cons_zero, List.getElem_cons_succ, Act.put, List.setIfInBounds_toArray, List.set_cons_zero, List.set_cons_succ]
            refine wpAnyH_take (i := 10) (oi := _) (v := undef) rfl (by kernel_rfl) (by kernel_rfl) (by kernel_rfl) (fun _ _ _ h => h) (Or.inr ⟨by kernel_rfl, rfl⟩) (by assumption) ?_
            try simp only [List.getElem_toArray, List.getElem_cons_zero, List.getElem_cons_succ, Act.put, List.setIfInBounds_toArray, List.set_cons_zero, List.set_cons_succ]
            refine wpAnyH_take (i := 11) (oi := _) (v := ?_) rfl (by kernel_rfl) (by kernel_rfl) (by kernel_rfl) (fun _ _ _ h => h) (Or.inl ⟨by kernel_rfl, ?_⟩) (by assumption) ?_
            rotate_left 1
            focus (intro wq hSw; (try dsimp only at hSw); obtain ⟨s0, s1, s2, s3, s4, s5, s6, s7, s8, s9, s10, s11, s12⟩ := hSw; go_simp; (try with_reducible rfl); done)
            try simp only [List.getElem_toArray, List.getElem_cons_zero, List.getElem_cons_succ, Act.put, List.setIfInBounds_toArray, List.set_cons_zero, List.set_cons_succ]
            refine wpAnyH_take (i := 12) (oi := _) (v := ?_) rfl (by kernel_rfl) (by kernel_rfl) (by kernel_rfl) (fun _ _ _ h => h) (Or.inl ⟨by kernel_rfl, ?_⟩) (by assumption) ?_
            rotate_left 1
            focus (intro wq hSw; (try dsimp only at hSw); obtain ⟨s0, s1, s2, s3, s4, s5, s6, s7, s8, s9, s10, s11, s12⟩ := hSw; go_simp; (try with_reducible rfl); done)
            try simp only [List.getElem_toArray, List.getElem_cons_zero, List.getElem_cons_succ, Act.put, List.setIfInBounds_toArray, List.set_cons_zero, List.set_cons_succ]
            refine wpAnyH_take (i := 13) (oi := _) (v := ?_) rfl (by kernel_rfl) (by kernel_rfl) (by kernel_rfl) (fun _ _ _ h => h) (Or.inl ⟨by kernel_rfl, ?_⟩) (by assumption) ?_
            rotate_left 1
            focus (intro wq hSw; (try dsimp only at hSw); obtain ⟨s0, s1, s2, s3, s4, s5, s6, s7, s8, s9, s10, s11, s12⟩ := hSw; go_simp; (try with_reducible rfl); done)
            try simp only [List.getElem_toArray, List.getElem_cons_zero, List.getElem_cons_succ, Act.put, List.setIfInBounds_toArray, List.set_cons_zero, List.set_cons_succ]
            refine wpAnyH_take (i := 14) (oi := _) (v := ?_) rfl (by kernel_rfl) (by kernel_rfl) (by kernel_rfl) (fun _ _ _ h => h) (Or.inl ⟨by kernel_rfl, ?_⟩) (by assumption) ?_
            rotate_left 1
            focus (intro wq hSw; (try dsimp only at hSw); obtain ⟨s0, s1, s2, s3, s4, s5, s6, s7, s8, s9, s10, s11, s12⟩ := hSw; go_simp; (try with_reducible rfl); done)
            try simp only [List.getElem_toArray, List.getElem_cons_zero, List.getElem_cons_succ, Act.put, List.setIfInBounds_toArray, List.set_cons_zero, List.set_cons_succ]
            refine wpAnyH_take (i := 16) (oi := _) (v := ?_) rfl (by kernel_rfl) (by kernel_rfl) (by kernel_rfl) (fun _ _ _ h => h) (Or.inl ⟨by kernel_rfl, ?_⟩) (by assumption) ?_
            rotate_left 1
            focus (intro wq hSw; (try dsimp only at hSw); obtain ⟨s0, s1, s2, s3, s4, s5, s6, s7, s8, s9, s10, s11, s12⟩ := hSw; go_simp; (try with_reducible rfl); done)
            try simp only [List.getElem_toArray, List.getElem_cons_zero, List.getElem_cons_succ, Act.put, List.setIfInBounds_toArray, List.set_cons_zero, List.set_cons_succ]
            refine wpAnyH_take (i := 17) (oi := _) (v := ?_) rfl (by kernel_rfl) (by kernel_rfl) (by kernel_rfl) (fun _ _ _ h => h) (Or.inl ⟨by kernel_rfl, ?_⟩) (by assumption) ?_
            rotate_left 1
            focus (intro wq hSw; (try dsimp only at hSw); obtain ⟨s0, s1, s2, s3, s4, s5, s6, s7, s8, s9, s10, s11, s12⟩ := hSw; go_simp; (try with_reducible rfl); done)
            try simp only [List.getElem_toArray, List.getElem_cons_zero, List.getElem_cons_succ, Act.put, List.setIfInBounds_toArray, List.set_cons_zero, List.set_cons_succ]
            refine wpAnyH_ready (rs := [15]) (by kernel_rfl) (by simp) ?_
            refine AllReadyH.cons (o := _) rfl (fun K hK => ?_) AllReadyH.nil
            rw [if_pos (by kernel_rfl)]
            go_simp
            (go_at_call 10; (with_reducible refine (CB.out _ hHeld.2.2.2.2.2.2.2.2.2.2.2.2.out.1).mono ?_); rintro e z80 ⟨rfl, q⟩; have q := q.out)
            first | refine hK.out _ _ ?_ (fun hHeld => ?_) | (go_wp2_with fail; refine hK.out _ _ ?_ (fun hHeld => ?_))
            · exact HS.out _ (hHeld.2.2.2.2.2.2.2.2.2.2.2.2.out.1.keep q) (hHeld.2.2.2.2.2.2.2.2.2.2.2.2.out.2.trans (q.mono hHeld.2.2.2.2.2.2.2.2.2.2.2.2.out.2.size))
            clear hK K
            try simp only [List.getElem_toArray, List.getElem_cons_zero, List.getElem_cons_succ, Act.put, List.setIfInBounds_toArray, List.set_cons_zero, List.set_cons_succ]
            refine wpAnyH_ready (rs := [18]) (by kernel_rfl) (by simp) ?_
            refine AllReadyH.cons (o := _) rfl (fun K hK => ?_) AllReadyH.nil
            rw [if_pos (by kernel_rfl)]
            go_simp
            (go_at_call 10; (with_reducible refine (CL.out _ hHeld.2.2.2.2.2.2.2.2.2.2.2.2.out.1).mono ?_); rintro e z83 ⟨rfl, q⟩; have q := q.out)
            first | refine hK.out _ _ ?_ (fun hHeld => ?_) | (go_wp2_with fail; refine hK.out _ _ ?_ (fun hHeld => ?_))
            · exact HS.out _ (hHeld.2.2.2.2.2.2.2.2.2.2.2.2.out.1.keep q) (hHeld.2.2.2.2.2.2.2.2.2.2.2.2.out.2.trans (q.mono hHeld.2.2.2.2.2.2.2.2.2.2.2.2.out.2.size))
            clear hK K
            try simp only [List.getElem_toArray, List.getElem_cons_zero, List.getElem_cons_succ, Act.put, List.setIfInBounds_toArray, List.set_cons_zero, List.set_cons_succ]
            refine wpAnyH_take (i := 19) (oi := _) (v := ?_) rfl (by kernel_rfl) (by kernel_rfl) (by kernel_rfl) (fun _ _ _ h => h) (Or.inl ⟨by kernel_rfl, ?_⟩) (by assumption) ?_
            rotate_left 1
            focus (intro wq hSw; (try dsimp only at hSw); obtain ⟨s0, s1, s2, s3, s4, s5, s6, s7, s8, s9, s10, s11, s12⟩ := hSw; go_simp; (try with_reducible rfl); done)
            try simp only [List.getElem_toArray, List.getElem_cons_zero, List.getElem_cons_succ, Act.put, List.setIfInBounds_toArray, List.set_cons_zero, List.set_cons_succ]
            refine wpAnyH_take (i := 20) (oi := _) (v := undef) rfl (by kernel_rfl) (by kernel_rfl) (by kernel_rfl) (fun _ _ _ h => h) (Or.inr ⟨by kernel_rfl, rfl⟩) (by assumption) ?_
            try simp only [List.getElem_toArray, List.getElem_cons_zero, List.getElem_cons_succ, Act.put, List.setIfInBounds_toArray, List.set_cons_zero, List.set_cons_succ]
            refine wpAnyH_take (i := 21) (oi := _) (v := undef) rfl (by kernel_rfl) (by kernel_rfl) (by kernel_rfl) (fun _ _ _ h => h) (Or.inr ⟨by kernel_rfl, rfl⟩) (by assumption) ?_
            try simp only [List.getElem_toArray, List.getElem_cons_zero, List.getElem_cons_succ, Act.put, List.setIfInBounds_toArray, List.set_cons_zero, List.set_cons_succ]
            refine wpAnyH_take (i := 22) (oi := _) (v := undef) rfl (by kernel_rfl) (by kernel_rfl) (by kernel_rfl) (fun _ _ _ h => h) (Or.inr ⟨by kernel_rfl, rfl⟩) (by assumption) ?_
            try simp only [List.getElem_toArray, List.getElem_cons_zero, List.getElem_cons_succ, Act.put, List.setIfInBounds_toArray, List.set_cons_zero, List.set_cons_succ]
            refine wpAnyH_take (i := 23) (oi := _) (v := ?_) rfl (by kernel_rfl) (by kernel_rfl) (by kernel_rfl) (fun _ _ _ h => h) (Or.inl ⟨by kernel_rfl, ?_⟩) (by assumption) ?_
            rotate_left 1
            focus (intro wq hSw; (try dsimp only at hSw); obtain ⟨s0, s1, s2, s3, s4, s5, s6, s7, s8, s9, s10, s11, s12⟩ := hSw; go_simp; (try with_reducible rfl); done)
            try simp only [List.getElem_toArray, List.getElem_cons_zero, List.getElem_cons_succ, Act.put, List.setIfInBounds_toArray, List.set_cons_zero, List.set_cons_succ]
            refine wpAnyH_take (i := 24) (oi := _) (v := ?_) rfl (by kernel_rfl) (by kernel_rfl) (by kernel_rfl) (fun _ _ _ h => h) (Or.inl ⟨by kernel_rfl, ?_⟩) (by assumption) ?_
            rotate_left 1
            focus (intro wq hSw; (try dsimp only at hSw); obtain ⟨s0, s1, s2, s3, s4, s5, s6, s7, s8, s9, s10, s11, s12⟩ := hSw; go_simp; (try with_reducible rfl); done)
            try simp only [List.getElem_toArray, List.getElem_cons_zero, List.getElem_cons_succ, Act.put, List.setIfInBounds_toArray, List.set_cons_zero, List.set_cons_succ]
            refine wpAnyH_take (i := 25) (oi := _) (v := ?_) rfl (by kernel_rfl) (by kernel_rfl) (by kernel_rfl) (fun _ _ _ h => h) (Or.inl ⟨by kernel_rfl, ?_⟩) (by assumption) ?_
            rotate_left 1
            focus (intro wq hSw; (try dsimp only at hSw); obtain ⟨s0, s1, s2, s3, s4, s5, s6, s7, s8, s9, s10, s11, s12⟩ := hSw; go_simp; (try with_reducible rfl); done)
            try simp only [List.getElem_toArray, List.getElem_cons_zero, List.getElem_cons_succ, Act.put, List.setIfInBounds_toArray, List.set_cons_zero, List.set_cons_succ]
            refine wpAnyH_done (by kernel_rfl) ?_ _
            have HL := Lib.hid hHeld.2.2.2.2.2.2.2.2.2.2.2.2.out
            clear hHeld
            go_wp2
            go_meet
            case rel => exact ⟨rfl, Lib.hid HL.out.2⟩
          case rest =>
            obtain ⟨rfl, HQ⟩ := hcut
            have HW := Lib.hid (HW.out.trans (HQ.out.mono HW.out.size))
            have HTR := Lib.hid (HTR.out.keep HQ.out)
            clear HQ HS H16 H17 H18
            go_wp2_with fail
            (with_reducible refine (HAW.out _).mono ?_)
            rintro e w9 ⟨rfl, q⟩
            have HW := Lib.hid (HW.out.trans (q.mono HW.out.size))
            clear q
            go_wp2
            go_returns
            exact ⟨rfl, HW.out⟩
      · have HO2 := Lib.hid (HOKB.out.1 (by first | rfl | trivial))
        have C0 : Hid (∀ W, TR ⟨P, N, co, cn, cc, oo, on, oc, cs, os⟩ x y g1 gt bn bt W → Calls Try.prog 10 #[.agg #[.int .i64 (0), .int .i64 (0), .bool false, .bool false], .pointer (some ⟨bn, 0, none⟩), .pointer (some ⟨bt, 0, none⟩)] W fun e w' => e = .returned (.bool true) ∧ Hid (Below W.heap.size W w')) := Lib.hid (fun W h => clo_any ⟨P, N, co, cn, cc, oo, on, oc, cs, os⟩ x y ia ib oa ob HRT.out HOK.out HCN.out Hx.out Hy.out HOWN.out g1 gt bn bt (0) (0) false false W h true (by rw [HD.out]; exact ⟨fun _ => ⟨HO2.out.1, HO2.out.2, (fun z => by cases z), fun z => by cases z⟩, fun _ => rfl⟩))
        go_wp2_with fail
        (with_reducible refine (C0.out _ HTR.out).mono ?_)
        rintro e w5 ⟨rfl, q⟩
        have HW := Lib.hid (HW.out.trans (q.out.mono HW.out.size))
        have HTR := Lib.hid (HTR.out.keep q.out)
        have HRG := Lib.hid (heap_keep HRG.out q.out)
        clear q C0
        go_upto_region 10 with fail
        have r0 : w5.cell? ⟨br, 0, none⟩ = some (.int .i64 lo) := cell_block HRG.out 0
        have r1 : w5.cell? ⟨br, 1, none⟩ = some (.int .i64 hi) := cell_block HRG.out 1
        have HLT : Hid (br < w5.heap.size) := Lib.hid (Array.getElem?_eq_some_iff.1 HRG.out).1
        go_cut [16, 17] from 54 to 59 (fun s16 s17 wx => ∃ b16 b17, s16 = .pointer (some ⟨b16, 0, none⟩) ∧ s17 = .pointer (some ⟨b17, 0, none⟩) ∧ Hid (Below w5.heap.size w5 wx ∧ wx.heap[b16]? = some (.cells #[.int .i64 lo, .int .i64 0, .bool true, .bool false] 34 (0, 0)) ∧ wx.heap[b17]? = some (.cells #[.int .i64 0, .int .i64 hi, .bool false, .bool true] 34 (0, 0))))
        case first =>
          obtain ⟨n5, hn5⟩ : ∃ n, w5.heap.size = n := ⟨_, rfl⟩
          have m1 : br < n5 := by have := HLT.out; omega
          have m2 : ¬ br = n5 := by omega
          have m3 : ¬ br = n5 + 1 := by omega
          have m5 : ¬ n5 = br := by omega
          have m6 : ¬ n5 + 1 = br := by omega
          clear HLT
          go_region
          all_goals
            go_wp2
            go_meet
            case rel =>
              refine ⟨_, _, rfl, rfl, Lib.hid ?_⟩
              obtain ⟨t0, t1, t2⟩ := two hn5 _ _
              first | exact ⟨t0, t1, t2⟩ | exact ⟨t0, t2, t1⟩
        case rest =>
          obtain ⟨b16, b17, rfl, rfl, HQ⟩ := hcut
          have HW := Lib.hid (HW.out.trans (HQ.out.1.mono HW.out.size))
          have HTR := Lib.hid (HTR.out.keep HQ.out.1)
          have HRG := Lib.hid (heap_keep HRG.out HQ.out.1)
          have H16 := Lib.hid HQ.out.2.1
          have H17 := Lib.hid HQ.out.2.2
          clear HQ r0 r1 HLT
          obtain ⟨v6, hv6⟩ : ∃ v : World, v = wc := ⟨_, rfl⟩
          subst hv6
          obtain ⟨b18, hb18⟩ : ∃ b, v6.heap.size = b := ⟨_, rfl⟩
          have r0 : v6.cell? ⟨br, 0, none⟩ = some (.int .i64 lo) := cell_block HRG.out 0
          have r1 : v6.cell? ⟨br, 1, none⟩ = some (.int .i64 hi) := cell_block HRG.out 1
          go_upto_region 12 with fail
          obtain ⟨wl, hwl⟩ : ∃ W, v6.alloc (.cells #[.int .i64 lo, .int .i64 hi, .bool true, .bool true] 34) = W := ⟨_, rfl⟩
          have K6 : Below v6.heap.size v6 wl := by rw [← hwl]; exact (Below.refl _ _).alloc (Nat.le_refl _) _
          have H18 : Hid (wl.heap[b18]? = some (.cells #[.int .i64 lo, .int .i64 hi, .bool true, .bool true] 34 (0, 0))) := Lib.hid (by rw [← hwl]; exact heap_at hb18)
          have HW := Lib.hid (HW.out.trans (K6.mono HW.out.size))
          have HTR := Lib.hid (HTR.out.keep K6)
          have H16 := Lib.hid (heap_keep H16.out K6)
          have H17 := Lib.hid (heap_keep H17.out K6)
          try rw [hwl]
          try rw [hb18]
          clear hwl hb18 K6 r0 r1 HRG
          have HS : Hid (∀ W, TR ⟨P, N, co, cn, cc, oo, on, oc, cs, os⟩ x y g1 gt bn bt W → Below wl.heap.size wl W → W.cell? ⟨b16, 0, none⟩ = some (.int .i64 lo) ∧ W.cell? ⟨b16, 1, none⟩ = some (.int .i64 0) ∧ W.cell? ⟨b16, 2, none⟩ = some (.bool true) ∧ W.cell? ⟨b16, 3, none⟩ = some (.bool false) ∧ W.cell? ⟨b17, 0, none⟩ = some (.int .i64 0) ∧ W.cell? ⟨b17, 1, none⟩ = some (.int .i64 hi) ∧ W.cell? ⟨b17, 2, none⟩ = some (.bool false) ∧ W.cell? ⟨b17, 3, none⟩ = some (.bool true) ∧ W.cell? ⟨b18, 0, none⟩ = some (.int .i64 lo) ∧ W.cell? ⟨b18, 1, none⟩ = some (.int .i64 hi) ∧ W.cell? ⟨b18, 2, none⟩ = some (.bool true) ∧ W.cell? ⟨b18, 3, none⟩ = some (.bool true) ∧ Hid (TR ⟨P, N, co, cn, cc, oo, on, oc, cs, os⟩ x y g1 gt bn bt W ∧ Below wl.heap.size wl W)) := Lib.hid (fun W h k => ⟨cell_keep (cell_block H16.out 0) k, cell_keep (cell_block H16.out 1) k, cell_keep (cell_block H16.out 2) k, cell_keep (cell_block H16.out 3) k, cell_keep (cell_block H17.out 0) k, cell_keep (cell_block H17.out 1) k, cell_keep (cell_block H17.out 2) k, cell_keep (cell_block H17.out 3) k, cell_keep (cell_block H18.out 0) k, cell_keep (cell_block H18.out 1) k, cell_keep (cell_block H18.out 2) k, cell_keep (cell_block H18.out 3) k, Lib.hid ⟨h, k⟩⟩)
          go_cut [90] from 65 to 90 (fun s90 wx => s90 = .bool false ∧ Hid (Below wl.heap.size wl wx))
          case first =>
            by_cases c1 : lo ≤ d <;> by_cases c2 : d ≤ hi
            · have CL : Hid (∀ W, TR ⟨P, N, co, cn, cc, oo, on, oc, cs, os⟩ x y g1 gt bn bt W → Calls Try.prog 10 #[.agg #[.int .i64 (lo), .int .i64 (0), .bool true, .bool false], .pointer (some ⟨bn, 0, none⟩), .pointer (some ⟨bt, 0, none⟩)] W fun e w' => e = .returned (.bool true) ∧ Hid (Below W.heap.size W w')) := Lib.hid (fun W h => clo_any ⟨P, N, co, cn, cc, oo, on, oc, cs, os⟩ x y ia ib oa ob HRT.out HOK.out HCN.out Hx.out Hy.out HOWN.out g1 gt bn bt (lo) (0) true false W h true (by rw [HD.out]; exact ⟨fun _ => ⟨HO2.out.1, HO2.out.2, fun _ => c1, fun z => by cases z⟩, fun _ => rfl⟩))
              have CH : Hid (∀ W, TR ⟨P, N, co, cn, cc, oo, on, oc, cs, os⟩ x y g1 gt bn bt W → Calls Try.prog 10 #[.agg #[.int .i64 (0), .int .i64 (hi), .bool false, .bool true], .pointer (some ⟨bn, 0, none⟩), .pointer (some ⟨bt, 0, none⟩)] W fun e w' => e = .returned (.bool true) ∧ Hid (Below W.heap.size W w')) := Lib.hid (fun W h => clo_any ⟨P, N, co, cn, cc, oo, on, oc, cs, os⟩ x y ia ib oa ob HRT.out HOK.out HCN.out Hx.out Hy.out HOWN.out g1 gt bn bt (0) (hi) false true W h true (by rw [HD.out]; exact ⟨fun _ => ⟨HO2.out.1, HO2.out.2, (fun z => by cases z), fun _ => c2⟩, fun _ => rfl⟩))
              have CB : Hid (∀ W, TR ⟨P, N, co, cn, cc, oo, on, oc, cs, os⟩ x y g1 gt bn bt W → Calls Try.prog 10 #[.agg #[.int .i64 (lo), .int .i64 (hi), .bool true, .bool true], .pointer (some ⟨bn, 0, none⟩), .pointer (some ⟨bt, 0, none⟩)] W fun e w' => e = .returned (.bool true) ∧ Hid (Below W.heap.size W w')) := Lib.hid (fun W h => clo_any ⟨P, N, co, cn, cc, oo, on, oc, cs, os⟩ x y ia ib oa ob HRT.out HOK.out HCN.out Hx.out Hy.out HOWN.out g1 gt bn bt (lo) (hi) true true W h true (by rw [HD.out]; exact ⟨fun _ => ⟨HO2.out.1, HO2.out.2, fun _ => c1, fun _ => c2⟩, fun _ => rfl⟩))
              clear HOKB HRT HOK HCN Hx Hy HOWN HLN HO2 c1 c2
              refine wp_region_held_drew (S := (fun W => W.cell? ⟨b16, 0, none⟩ = some (.int .i64 lo) ∧ W.cell? ⟨b16, 1, none⟩ = some (.int .i64 0) ∧ W.cell? ⟨b16, 2, none⟩ = some (.bool true) ∧ W.cell? ⟨b16, 3, none⟩ = some (.bool false) ∧ W.cell? ⟨b17, 0, none⟩ = some (.int .i64 0) ∧ W.cell? ⟨b17, 1, none⟩ = some (.int .i64 hi) ∧ W.cell? ⟨b17, 2, none⟩ = some (.bool false) ∧ W.cell? ⟨b17, 3, none⟩ = some (.bool true) ∧ W.cell? ⟨b18, 0, none⟩ = some (.int .i64 lo) ∧ W.cell? ⟨b18, 1, none⟩ = some (.int .i64 hi) ∧ W.cell? ⟨b18, 2, none⟩ = some (.bool true) ∧ W.cell? ⟨b18, 3, none⟩ = some (.bool true) ∧ Hid (TR ⟨P, N, co, cn, cc, oo, on, oc, cs, os⟩ x y g1 gt bn bt W ∧ Below wl.heap.size wl W))) (by kernel_rfl) ?_ (fun hHeld => ?_)
              · exact HS.out _ (HTR.out.keep (Below.refl _ _).drew) (Below.refl _ _).drew
              refine wpAnyH_take (i := 0) (oi := _) (v := ?_) rfl (by kernel_rfl) (by kernel_rfl) (by kernel_rfl) (fun _ _ _ h => h) (Or.inl ⟨by kernel_rfl, ?_⟩) (by assumption) ?_
              rotate_left 1
              focus (intro wq hSw; (try dsimp only at hSw); obtain ⟨s0, s1, s2, s3, s4, s5, s6, s7, s8, s9, s10, s11, s12⟩ := hSw; go_simp; (try with_reducible rfl); done)
              try simp only [List.getElem_toArray, List.getElem_cons_zero, List.getElem_cons_succ, Act.put, List.setIfInBounds_toArray, List.set_cons_zero, List.set_cons_succ]
              refine wpAnyH_take (i := 1) (oi := _) (v := ?_) rfl (by kernel_rfl) (by kernel_rfl) (by kernel_rfl) (fun _ _ _ h => h) (Or.inl ⟨by kernel_rfl, ?_⟩) (by assumption) ?_
              rotate_left 1
              focus (intro wq hSw; (try dsimp only at hSw); obtain ⟨s0, s1, s2, s3, s4, s5, s6, s7, s8, s9, s10, s11, s12⟩ := hSw; go_simp; (try with_reducible rfl); done)
              try simp only [List.getElem_toArray, List.getElem_cons_zero, List.getElem_cons_succ, Act.put, List.setIfInBounds_toArray, List.set_cons_zero, List.set_cons_succ]
              refine wpAnyH_ready (rs := [2]) (by kernel_rfl) (by simp) ?_
              refine AllReadyH.cons (o := _) rfl (fun K hK => ?_) AllReadyH.nil
              rw [if_pos (by kernel_rfl)]
              go_simp
              (go_at_call 10; (with_reducible refine (CL.out _ hHeld.2.2.2.2.2.2.2.2.2.2.2.2.out.1).mono ?_); rintro e z67 ⟨rfl, q⟩; have q := q.out)
              first | refine hK.out _ _ ?_ (fun hHeld => ?_) | (go_wp2_with fail; refine hK.out _ _ ?_ (fun hHeld => ?_))
              · exact HS.out _ (hHeld.2.2.2.2.2.2.2.2.2.2.2.2.out.1.keep q) (hHeld.2.2.2.2.2.2.2.2.2.2.2.2.out.2.trans (q.mono hHeld.2.2.2.2.2.2.2.2.2.2.2.2.out.2.size))
              clear hK K
              try simp only [List.getElem_toArray, List.getElem_cons_zero, List.getElem_cons_succ, Act.put, List.setIfInBounds_toArray, List.set_cons_zero, List.set_cons_succ]
              refine wpAnyH_take (i := 3) (oi := _) (v := ?_) rfl (by kernel_rfl) (by kernel_rfl) (by kernel_rfl) (fun _ _ _ h => h) (Or.inl ⟨by kernel_rfl, ?_⟩) (by assumption) ?_
              rotate_left 1
              focus (intro wq hSw; (try dsimp only at hSw); obtain ⟨s0, s1, s2, s3, s4, s5, s6, s7, s8, s9, s10, s11, s12⟩ := hSw; go_simp; (try with_reducible rfl); done)
              try simp only [List.getElem_toArray, List.getElem_cons_zero, List.getElem_cons_succ, Act.put, List.setIfInBounds_toArray, List.set_cons_zero, List.set_cons_succ]
              refine wpAnyH_take (i := 4) (oi := _) (v := undef) rfl (by kernel_rfl) (by kernel_rfl) (by kernel_rfl) (fun _ _ _ h => h) (Or.inr ⟨by kernel_rfl, rfl⟩) (by assumption) ?_
              try simp only [List.getElem_toArray, List.getElem_cons_zero, List.getElem_cons_succ, Act.put, List.setIfInBounds_toArray, List.set_cons_zero, List.set_cons_succ]
              refine wpAnyH_take (i := 5) (oi := _) (v := undef) rfl (by kernel_rfl) (by kernel_rfl) (by kernel_rfl) (fun _ _ _ h => h) (Or.inr ⟨by kernel_rfl, rfl⟩) (by assumption) ?_
              try simp only [List.getElem_toArray, List.getElem_cons_zero, List.getElem_cons_succ, Act.put, List.setIfInBounds_toArray, List.set_cons_zero, List.set_cons_succ]
              refine wpAnyH_take (i := 6) (oi := _) (v := undef) rfl (by kernel_rfl) (by kernel_rfl) (by kernel_rfl) (fun _ _ _ h => h) (Or.inr ⟨by kernel_rfl, rfl⟩) (by assumption) ?_
              try simp only [List.getElem_toArray, List.getElem_cons_zero, List.getElem_cons_succ, Act.put, List.setIfInBounds_toArray, List.set_cons_zero, List.set_cons_succ]
              refine wpAnyH_take (i := 7) (oi := _) (v := ?_) rfl (by kernel_rfl) (by kernel_rfl) (by kernel_rfl) (fun _ _ _ h => h) (Or.inl ⟨by kernel_rfl, ?_⟩) (by assumption) ?_
              rotate_left 1
              focus (intro wq hSw; (try dsimp only at hSw); obtain ⟨s0, s1, s2, s3, s4, s5, s6, s7, s8, s9, s10, s11, s12⟩ := hSw; go_simp; (try with_reducible rfl); done)
              try simp only [List.getElem_toArray, List.getElem_cons_zero, List.getElem_cons_succ, Act.put, List.setIfInBounds_toArray, List.set_cons_zero, List.set_cons_succ]
              refine wpAnyH_take (i := 8) (oi := _) (v := ?_) rfl (by kernel_rfl) (by kernel_rfl) (by kernel_rfl) (fun _ _ _ h => h) (Or.inl ⟨by kernel_rfl, ?_⟩) (by assumption) ?_
              rotate_left 1
              focus (intro wq hSw; (try dsimp only at hSw); obtain ⟨s0, s1, s2, s3, s4, s5, s6, s7, s8, s9, s10, s11, s12⟩ := hSw; go_simp; (try with_reducible rfl); done)
              try simp only [List.getElem_toArray, List.getElem_cons_zero, List.getElem_cons_succ, Act.put, List.setIfInBounds_toArray, List.set_cons_zero, List.set_cons_succ]
              refine wpAnyH_take (i := 9) (oi := _) (v := ?_) rfl (by kernel_rfl) (by kernel_rfl) (by kernel_rfl) (fun _ _ _ h => h) (Or.inl ⟨by kernel_rfl, ?_⟩) (by assumption) ?_
              rotate_left 1
              focus (intro wq hSw; (try dsimp only at hSw); obtain ⟨s0, s1, s2, s3, s4, s5, s6, s7, s8, s9, s10, s11, s12⟩ := hSw; go_simp; (try with_reducible rfl); done)
              try simp only [List.getElem_toArray, List.getElem_cons_zero, List.getElem_cons_succ, Act.put, List.setIfInBounds_toArray, List.set_cons_zero, List.set_cons_succ]
              refine wpAnyH_take (i := 10) (oi := _) (v := ?_) rfl (by kernel_rfl) (by kernel_rfl) (by kernel_rfl) (fun _ _ _ h => h) (Or.inl ⟨by kernel_rfl, ?_⟩) (by assumption) ?_
              rotate_left 1
              focus (intro wq hSw; (try dsimp only at hSw); obtain ⟨s0, s1, s2, s3, s4, s5, s6, s7, s8, s9, s10, s11, s12⟩ := hSw; go_simp; (try with_reducible rfl); done)
              try simp only [List.getElem_toArray, List.getElem_cons_zero, List.getElem_cons_succ, Act.put, List.setIfInBounds_toArray, List.set_cons_zero, List.set_cons_succ]
              refine wpAnyH_take (i := 11) (oi := _) (v := ?_) rfl (by kernel_rfl) (by kernel_rfl) (by kernel_rfl) (fun _ _ _ h => h) (Or.inl ⟨by kernel_rfl, ?_⟩) (by assumption) ?_
              rotate_left 1
              focus (intro wq hSw; (try dsimp only at hSw); obtain ⟨s0, s1, s2, s3, s4, s5, s6, s7, s8, s9, s10, s11, s12⟩ := hSw; go_simp; (try with_reducible rfl); done)
              try simp only [List.getElem_toArray, List.getElem_cons_zero, List.getElem_cons_succ, Act.put, List.setIfInBounds_toArray, List.set_cons_zero, List.set_cons_succ]
              refine wpAnyH_take (i := 12) (oi := _) (v := ?_) rfl (by kernel_rfl) (by kernel_rfl) (by kernel_rfl) (fun _ _ _ h => h) (Or.inl ⟨by kernel_rfl, ?_⟩) (by assumption) ?_
              rotate_left 1
              focus (intro wq hSw; (try dsimp only at hSw); obtain ⟨s0, s1, s2, s3, s4, s5, s6, s7, s8, s9, s10, s11, s12⟩ := hSw; go_simp; (try with_reducible rfl); done)
              try simp only [List.getElem_toArray, List.getElem_cons_zero, List.getElem_cons_succ, Act.put, List.setIfInBounds_toArray, List.set_cons_zero, List.set_cons_succ]
              refine wpAnyH_take (i := 13) (oi := _) (v := ?_) rfl (by kernel_rfl) (by kernel_rfl) (by kernel_rfl) (fun _ _ _ h => h) (Or.inl ⟨by kernel_rfl, ?_⟩) (by assumption) ?_
              rotate_left 1
              focus (intro wq hSw; (try dsimp only at hSw); obtain ⟨s0, s1, s2, s3, s4, s5, s6, s7, s8, s9, s10, s11, s12⟩ := hSw; go_simp; (try with_reducible rfl); done)
              try simp only [List.getElem_toArray, List.getElem_cons_zero, List.getElem_cons_succ, Act.put, List.setIfInBounds_toArray, List.set_cons_zero, List.set_cons_succ]
              refine wpAnyH_take (i := 14) (oi := _) (v := ?_) rfl (by kernel_rfl) (by kernel_rfl) (by kernel_rfl) (fun _ _ _ h => h) (Or.inl ⟨by kernel_rfl, ?_⟩) (by assumption) ?_
              rotate_left 1
              focus (intro wq hSw; (try dsimp only at hSw); obtain ⟨s0, s1, s2, s3, s4, s5, s6, s7, s8, s9, s10, s11, s12⟩ := hSw; go_simp; (try with_reducible rfl); done)
              try simp only [List.getElem_toArray, List.getElem_cons_zero, List.getElem_cons_succ, Act.put, List.setIfInBounds_toArray, List.set_cons_zero, List.set_cons_succ]
              refine wpAnyH_take (i := 16) (oi := _) (v := ?_) rfl (by kernel_rfl) (by kernel_rfl) (by kernel_rfl) (fun _ _ _ h => h) (Or.inl ⟨by kernel_rfl, ?_⟩) (by assumption) ?_
              rotate_left 1
              focus (intro wq hSw; (try dsimp only at hSw); obtain ⟨s0, s1, s2, s3, s4, s5, s6, s7, s8, s9, s10, s11, s12⟩ := hSw; go_simp; (try with_reducible rfl); done)
              try simp only [List.getElem_toArray, List.getElem_cons_zero, List.getElem_cons_succ, Act.put, List.setIfInBounds_toArray, List.set_cons_zero, List.set_cons_succ]
              refine wpAnyH_take (i := 17) (oi := _) (v := ?_) rfl (by kernel_rfl) (by kernel_rfl) (by kernel_rfl) (fun _ _ _ h => h) (Or.inl ⟨by kernel_rfl, ?_⟩) (by assumption) ?_
              rotate_left 1
              focus (intro wq hSw; (try dsimp only at hSw); obtain ⟨s0, s1, s2, s3, s4, s5, s6, s7, s8, s9, s10, s11, s12⟩ := hSw; go_simp; (try with_reducible rfl); done)
              try simp only [List.getElem_toArray, List.getElem_cons_zero, List.getElem_cons_succ, Act.put, List.setIfInBounds_toArray, List.set_cons_zero, List.set_cons_succ]
              refine wpAnyH_ready (rs := [15]) (by kernel_rfl) (by simp) ?_
              refine AllReadyH.cons (o := _) rfl (fun K hK => ?_) AllReadyH.nil
              rw [if_pos (by kernel_rfl)]
              go_simp
              (go_at_call 10; (with_reducible refine (CB.out _ hHeld.2.2.2.2.2.2.2.2.2.2.2.2.out.1).mono ?_); rintro e z80 ⟨rfl, q⟩; have q := q.out)
              first | refine hK.out _ _ ?_ (fun hHeld => ?_) | (go_wp2_with fail; refine hK.out _ _ ?_ (fun hHeld => ?_))
              · exact HS.out _ (hHeld.2.2.2.2.2.2.2.2.2.2.2.2.out.1.keep q) (hHeld.2.2.2.2.2.2.2.2.2.2.2.2.out.2.trans (q.mono hHeld.2.2.2.2.2.2.2.2.2.2.2.2.out.2.size))
              clear hK K
              try simp only [List.getElem_toArray, List.getElem_cons_zero, List.getElem_cons_succ, Act.put, List.setIfInBounds_toArray, List.set_cons_zero, List.set_cons_succ]
              refine wpAnyH_ready (rs := [18]) (by kernel_rfl) (by simp) ?_
              refine AllReadyH.cons (o := _) rfl (fun K hK => ?_) AllReadyH.nil
              rw [if_pos (by kernel_rfl)]
              go_simp
              (go_at_call 10; (with_reducible refine (CL.out _ hHeld.2.2.2.2.2.2.2.2.2.2.2.2.out.1).mono ?_); rintro e z83 ⟨rfl, q⟩; have q := q.out)
              first | refine hK.out _ _ ?_ (fun hHeld => ?_) | (go_wp2_with fail; refine hK.out _ _ ?_ (fun hHeld => ?_))
              · exact HS.out _ (hHeld.2.2.2.2.2.2.2.2.2.2.2.2.out.1.keep q) (hHeld.2.2.2.2.2.2.2.2.2.2.2.2.out.2.trans (q.mono hHeld.2.2.2.2.2.2.2.2.2.2.2.2.out.2.size))
              clear hK K
              try simp only [List.getElem_toArray, List.getElem_cons_zero, List.getElem_cons_succ, Act.put, List.setIfInBounds_toArray, List.set_cons_zero, List.set_cons_succ]
              refine wpAnyH_take (i := 19) (oi := _) (v := ?_) rfl (by kernel_rfl) (by kernel_rfl) (by kernel_rfl) (fun _ _ _ h => h) (Or.inl ⟨by kernel_rfl, ?_⟩) (by assumption) ?_
              rotate_left 1
              focus (intro wq hSw; (try dsimp only at hSw); obtain ⟨s0, s1, s2, s3, s4, s5, s6, s7, s8, s9, s10, s11, s12⟩ := hSw; go_simp; (try with_reducible rfl); done)
              try simp only [List.getElem_toArray, List.getElem_cons_zero, List.getElem_cons_succ, Act.put, List.setIfInBounds_toArray, List.set_cons_zero, List.set_cons_succ]
              refine wpAnyH_take (i := 20) (oi := _) (v := ?_) rfl (by kernel_rfl) (by kernel_rfl) (by kernel_rfl) (fun _ _ _ h => h) (Or.inl ⟨by kernel_rfl, ?_⟩) (by assumption) ?_
              rotate_left 1
              focus (intro wq hSw; (try dsimp only at hSw); obtain ⟨s0, s1, s2, s3, s4, s5, s6, s7, s8, s9, s10, s11, s12⟩ := hSw; go_simp; (try with_reducible rfl); done)
              try simp only [List.getElem_toArray, List.getElem_cons_zero, List.getElem_cons_succ, Act.put, List.setIfInBounds_toArray, List.set_cons_zero, List.set_cons_succ]
              refine wpAnyH_take (i := 21) (oi := _) (v := ?_) rfl (by kernel_rfl) (by kernel_rfl) (by kernel_rfl) (fun _ _ _ h => h) (Or.inl ⟨by kernel_rfl, ?_⟩) (by assumption) ?_
              rotate_left 1
              focus (intro wq hSw; (try dsimp only at hSw); obtain ⟨s0, s1, s2, s3, s4, s5, s6, s7, s8, s9, s10, s11, s12⟩ := hSw; go_simp; (try with_reducible rfl); done)
              try simp only [List.getElem_toArray, List.getElem_cons_zero, List.getElem_cons_succ, Act.put, List.setIfInBounds_toArray, List.set_cons_zero, List.set_cons_succ]
              refine wpAnyH_ready (rs := [22]) (by kernel_rfl) (by simp) ?_
              refine AllReadyH.cons (o := _) rfl (fun K hK => ?_) AllReadyH.nil
              rw [if_pos (by kernel_rfl)]
              go_simp
              (go_at_call 10; (with_reducible refine (CH.out _ hHeld.2.2.2.2.2.2.2.2.2.2.2.2.out.1).mono ?_); rintro e z87 ⟨rfl, q⟩; have q := q.out)
              first | refine hK.out _ _ ?_ (fun hHeld => ?_) | (go_wp2_with fail; refine hK.out _ _ ?_ (fun hHeld => ?_))
              · exact HS.out _ (hHeld.2.2.2.2.2.2.2.2.2.2.2.2.out.1.keep q) (hHeld.2.2.2.2.2.2.2.2.2.2.2.2.out.2.trans (q.mono hHeld.2.2.2.2.2.2.2.2.2.2.2.2.out.2.size))
              clear hK K
              try simp only [List.getElem_toArray, List.getElem_cons_zero, List.getElem_cons_succ, Act.put, List.setIfInBounds_toArray, List.set_cons_zero, List.set_cons_succ]
              refine wpAnyH_take (i := 23) (oi := _) (v := ?_) rfl (by kernel_rfl) (by kernel_rfl) (by kernel_rfl) (fun _ _ _ h => h) (Or.inl ⟨by kernel_rfl, ?_⟩) (by assumption) ?_
              rotate_left 1
              focus (intro wq hSw; (try dsimp only at hSw); obtain ⟨s0, s1, s2, s3, s4, s5, s6, s7, s8, s9, s10, s11, s12⟩ := hSw; go_simp; (try with_reducible rfl); done)
              try simp only [List.getElem_toArray, List.getElem_cons_zero, List.getElem_cons_succ, Act.put, List.setIfInBounds_toArray, List.set_cons_zero, List.set_cons_succ]
              refine wpAnyH_take (i := 24) (oi := _) (v := ?_) rfl (by kernel_rfl) (by kernel_rfl) (by kernel_rfl) (fun _ _ _ h => h) (Or.inl ⟨by kernel_rfl, ?_⟩) (by assumption) ?_
              rotate_left 1
              focus (intro wq hSw; (try dsimp only at hSw); obtain ⟨s0, s1, s2, s3, s4, s5, s6, s7, s8, s9, s10, s11, s12⟩ := hSw; go_simp; (try with_reducible rfl); done)
              try simp only [List.getElem_toArray, List.getElem_cons_zero, List.getElem_cons_succ, Act.put, List.setIfInBounds_toArray, List.set_cons_zero, List.set_cons_succ]
              refine wpAnyH_take (i := 25) (oi := _) (v := ?_) rfl (by kernel_rfl) (by kernel_rfl) (by kernel_rfl) (fun _ _ _ h => h) (Or.inl ⟨by kernel_rfl, ?_⟩) (by assumption) ?_
              rotate_left 1
              focus (intro wq hSw; (try dsimp only at hSw); obtain ⟨s0, s1, s2, s3, s4, s5, s6, s7, s8, s9, s10, s11, s12⟩ := hSw; go_simp; (try with_reducible rfl); done)
              try simp only [List.getElem_toArray, List.getElem_cons_zero, List.getElem_cons_succ, Act.put, List.setIfInBounds_toArray, List.set_cons_zero, List.set_cons_succ]
              refine wpAnyH_done (by kernel_rfl) ?_ _
              have HL := Lib.hid hHeld.2.2.2.2.2.2.2.2.2.2.2.2.out
              clear hHeld
              go_wp2
              go_meet
              case rel => exact ⟨rfl, Lib.hid HL.out.2⟩
            · have CL : Hid (∀ W, TR ⟨P, N, co, cn, cc, oo, on, oc, cs, os⟩ x y g1 gt bn bt W → Calls Try.prog 10 #[.agg #[.int .i64 (lo), .int .i64 (0), .bool true, .bool false], .pointer (some ⟨bn, 0, none⟩), .pointer (some ⟨bt, 0, none⟩)] W fun e w' => e = .returned (.bool true) ∧ Hid (Below W.heap.size W w')) := Lib.hid (fun W h => clo_any ⟨P, N, co, cn, cc, oo, on, oc, cs, os⟩ x y ia ib oa ob HRT.out HOK.out HCN.out Hx.out Hy.out HOWN.out g1 gt bn bt (lo) (0) true false W h true (by rw [HD.out]; exact ⟨fun _ => ⟨HO2.out.1, HO2.out.2, fun _ => c1, fun z => by cases z⟩, fun _ => rfl⟩))
              have CH : Hid (∀ W, TR ⟨P, N, co, cn, cc, oo, on, oc, cs, os⟩ x y g1 gt bn bt W → Calls Try.prog 10 #[.agg #[.int .i64 (0), .int .i64 (hi), .bool false, .bool true], .pointer (some ⟨bn, 0, none⟩), .pointer (some ⟨bt, 0, none⟩)] W fun e w' => e = .returned (.bool false) ∧ Hid (Below W.heap.size W w')) := Lib.hid (fun W h => clo_any ⟨P, N, co, cn, cc, oo, on, oc, cs, os⟩ x y ia ib oa ob HRT.out HOK.out HCN.out Hx.out Hy.out HOWN.out g1 gt bn bt (0) (hi) false true W h false (by rw [HD.out]; exact ⟨fun z => (by cases z), fun z => absurd (z.2.2.2 rfl) c2⟩))
              have CB : Hid (∀ W, TR ⟨P, N, co, cn, cc, oo, on, oc, cs, os⟩ x y g1 gt bn bt W → Calls Try.prog 10 #[.agg #[.int .i64 (lo), .int .i64 (hi), .bool true, .bool true], .pointer (some ⟨bn, 0, none⟩), .pointer (some ⟨bt, 0, none⟩)] W fun e w' => e = .returned (.bool false) ∧ Hid (Below W.heap.size W w')) := Lib.hid (fun W h => clo_any ⟨P, N, co, cn, cc, oo, on, oc, cs, os⟩ x y ia ib oa ob HRT.out HOK.out HCN.out Hx.out Hy.out HOWN.out g1 gt bn bt (lo) (hi) true true W h false (by rw [HD.out]; exact ⟨fun z => (by cases z), fun z => absurd (z.2.2.2 rfl) c2⟩))
              clear HOKB HRT HOK HCN Hx Hy HOWN HLN HO2 c1 c2
              refine wp_region_held_drew (S := (fun W => W.cell? ⟨b16, 0, none⟩ = some (.int .i64 lo) ∧ W.cell? ⟨b16, 1, none⟩ = some (.int .i64 0) ∧ W.cell? ⟨b16, 2, none⟩ = some (.bool true) ∧ W.cell? ⟨b16, 3, none⟩ = some (.bool false) ∧ W.cell? ⟨b17, 0, none⟩ = some (.int .i64 0) ∧ W.cell? ⟨b17, 1, none⟩ = some (.int .i64 hi) ∧ W.cell? ⟨b17, 2, none⟩ = some (.bool false) ∧ W.cell? ⟨b17, 3, none⟩ = some (.bool true) ∧ W.cell? ⟨b18, 0, none⟩ = some (.int .i64 lo) ∧ W.cell? ⟨b18, 1, none⟩ = some (.int .i64 hi) ∧ W.cell? ⟨b18, 2, none⟩ = some (.bool true) ∧ W.cell? ⟨b18, 3, none⟩ = some (.bool true) ∧ Hid (TR ⟨P, N, co, cn, cc, oo, on, oc, cs, os⟩ x y g1 gt bn bt W ∧ Below wl.heap.size wl W))) (by kernel_rfl) ?_ (fun hHeld => ?_)
              · exact HS.out _ (HTR.out.keep (Below.refl _ _).drew) (Below.refl _ _).drew
              refine wpAnyH_take (i := 0) (oi := _) (v := ?_) rfl (by kernel_rfl) (by kernel_rfl) (by kernel_rfl) (fun _ _ _ h => h) (Or.inl ⟨by kernel_rfl, ?_⟩) (by assumption) ?_
              rotate_left 1
              focus (intro wq hSw; (try dsimp only at hSw); obtain ⟨s0, s1, s2, s3, s4, s5, s6, s7, s8, s9, s10, s11, s12⟩ := hSw; go_simp; (try with_reducible rfl); done)
              try simp only [List.getElem_toArray, List.getElem_cons_zero, List.getElem_cons_succ, Act.put, List.setIfInBounds_toArray, List.set_cons_zero, List.set_cons_succ]
              refine wpAnyH_take (i := 1) (oi := _) (v := ?_) rfl (by kernel_rfl) (by kernel_rfl) (by kernel_rfl) (fun _ _ _ h => h) (Or.inl ⟨by kernel_rfl, ?_⟩) (by assumption) ?_
              rotate_left 1
              focus (intro wq hSw; (try dsimp only at hSw); obtain ⟨s0, s1, s2, s3, s4, s5, s6, s7, s8, s9, s10, s11, s12⟩ := hSw; go_simp; (try with_reducible rfl); done)
              try simp only [List.getElem_toArray, List.getElem_cons_zero, List.getElem_cons_succ, Act.put, List.setIfInBounds_toArray, List.set_cons_zero, List.set_cons_succ]
              refine wpAnyH_ready (rs := [2]) (by kernel_rfl) (by simp) ?_
              refine AllReadyH.cons (o := _) rfl (fun K hK => ?_) AllReadyH.nil
              rw [if_pos (by kernel_rfl)]
              go_simp
              (go_at_call 10; (with_reducible refine (CL.out _ hHeld.2.2.2.2.2.2.2.2.2.2.2.2.out.1).mono ?_); rintro e z67 ⟨rfl, q⟩; have q := q.out)
              first | refine hK.out _ _ ?_ (fun hHeld => ?_) | (go_wp2_with fail; refine hK.out _ _ ?_ (fun hHeld => ?_))
              · exact HS.out _ (hHeld.2.2.2.2.2.2.2.2.2.2.2.2.out.1.keep q) (hHeld.2.2.2.2.2.2.2.2.2.2.2.2.out.2.trans (q.mono hHeld.2.2.2.2.2.2.2.2.2.2.2.2.out.2.size))
              clear hK K
              try simp only [List.getElem_toArray, List.getElem_cons_zero, List.getElem_cons_succ, Act.put, List.setIfInBounds_toArray, List.set_cons_zero, List.set_cons_succ]
              refine wpAnyH_take (i := 3) (oi := _) (v := ?_) rfl (by kernel_rfl) (by kernel_rfl) (by kernel_rfl) (fun _ _ _ h => h) (Or.inl ⟨by kernel_rfl, ?_⟩) (by assumption) ?_
              rotate_left 1
              focus (intro wq hSw; (try dsimp only at hSw); obtain ⟨s0, s1, s2, s3, s4, s5, s6, s7, s8, s9, s10, s11, s12⟩ := hSw; go_simp; (try with_reducible rfl); done)
              try simp only [List.getElem_toArray, List.getElem_cons_zero, List.getElem_cons_succ, Act.put, List.setIfInBounds_toArray, List.set_cons_zero, List.set_cons_succ]
              refine wpAnyH_take (i := 4) (oi := _) (v := undef) rfl (by kernel_rfl) (by kernel_rfl) (by kernel_rfl) (fun _ _ _ h => h) (Or.inr ⟨by kernel_rfl, rfl⟩) (by assumption) ?_
              try simp only [List.getElem_toArray, List.getElem_cons_zero, List.getElem_cons_succ, Act.put, List.setIfInBounds_toArray, List.set_cons_zero, List.set_cons_succ]
              refine wpAnyH_take (i := 5) (oi := _) (v := undef) rfl (by kernel_rfl) (by kernel_rfl) (by kernel_rfl) (fun _ _ _ h => h) (Or.inr ⟨by kernel_rfl, rfl⟩) (by assumption) ?_
              try simp only [List.getElem_toArray, List.getElem_cons_zero, List.getElem_cons_succ, Act.put, List.setIfInBounds_toArray, List.set_cons_zero, List.set_cons_succ]
              refine wpAnyH_take (i := 6) (oi := _) (v := undef) rfl (by kernel_rfl) (by kernel_rfl) (by kernel_rfl) (fun _ _ _ h => h) (Or.inr ⟨by kernel_rfl, rfl⟩) (by assumption) ?_
              try simp only [List.getElem_toArray, List.getElem_cons_zero, List.getElem_cons_succ, Act.put, List.setIfInBounds_toArray, List.set_cons_zero, List.set_cons_succ]
              refine wpAnyH_take (i := 7) (oi := _) (v := ?_) rfl (by kernel_rfl) (by kernel_rfl) (by kernel_rfl) (fun _ _ _ h => h) (Or.inl ⟨by kernel_rfl, ?_⟩) (by assumption) ?_
              rotate_left 1
              focus (intro wq hSw; (try dsimp only at hSw); obtain ⟨s0, s1, s2, s3, s4, s5, s6, s7, s8, s9, s10, s11, s12⟩ := hSw; go_simp; (try with_reducible rfl); done)
              try simp only [List.getElem_toArray, List.getElem_cons_zero, List.getElem_cons_succ, Act.put, List.setIfInBounds_toArray, List.set_cons_zero, List.set_cons_succ]
              refine wpAnyH_take (i := 8) (oi := _) (v := ?_) rfl (by kernel_rfl) (by kernel_rfl) (by kernel_rfl) (fun _ _ _ h => h) (Or.inl ⟨by kernel_rfl, ?_⟩) (by assumption) ?_
              rotate_left 1
              focus (intro wq hSw; (try dsimp only at hSw); obtain ⟨s0, s1, s2, s3, s4, s5, s6, s7, s8, s9, s10, s11, s12⟩ := hSw; go_simp; (try with_reducible rfl); done)
              try simp only [List.getElem_toArray, List.getElem_cons_zero, List.getElem_cons_succ, Act.put, List.setIfInBounds_toArray, List.set_cons_zero, List.set_cons_succ]
              refine wpAnyH_take (i := 9) (oi := _) (v := ?_) rfl (by kernel_rfl) (by kernel_rfl) (by kernel_rfl) (fun _ _ _ h => h) (Or.inl ⟨by kernel_rfl, ?_⟩) (by assumption) ?_
              rotate_left 1
              focus (intro wq hSw; (try dsimp only at hSw); obtain ⟨s0, s1, s2, s3, s4, s5, s6, s7, s8, s9, s10, s11, s12⟩ := hSw; go_simp; (try with_reducible rfl); done)
              try simp only [List.getElem_toArray, List.getElem_cons_zero, List.getElem_cons_succ, Act.put, List.setIfInBounds_toArray, List.set_cons_zero, List.set_cons_succ]
              refine wpAnyH_take (i := 10) (oi := _) (v := ?_) rfl (by kernel_rfl) (by kernel_rfl) (by kernel_rfl) (fun _ _ _ h => h) (Or.inl ⟨by kernel_rfl, ?_⟩) (by assumption) ?_
              rotate_left 1
              focus (intro wq hSw; (try dsimp only at hSw); obtain ⟨s0, s1, s2, s3, s4, s5, s6, s7, s8, s9, s10, s11, s12⟩ := hSw; go_simp; (try with_reducible rfl); done)
              try simp only [List.getElem_toArray, List.getElem_cons_zero, List.getElem_cons_succ, Act.put, List.setIfInBounds_toArray, List.set_cons_zero, List.set_cons_succ]
              refine wpAnyH_take (i := 11) (oi := _) (v := ?_) rfl (by kernel_rfl) (by kernel_rfl) (by kernel_rfl) (fun _ _ _ h => h) (Or.inl ⟨by kernel_rfl, ?_⟩) (by assumption) ?_
              rotate_left 1
              focus (intro wq hSw; (try dsimp only at hSw); obtain ⟨s0, s1, s2, s3, s4, s5, s6, s7, s8, s9, s10, s11, s12⟩ := hSw; go_simp; (try with_reducible rfl); done)
              try simp only [List.getElem_toArray, List.getElem_cons_zero, List.getElem_cons_succ, Act.put, List.setIfInBounds_toArray, List.set_cons_zero, List.set_cons_succ]
              refine wpAnyH_take (i := 12) (oi := _) (v := ?_) rfl (by kernel_rfl) (by kernel_rfl) (by kernel_rfl) (fun _ _ _ h => h) (Or.inl ⟨by kernel_rfl, ?_⟩) (by assumption) ?_
              rotate_left 1
              focus (intro wq hSw; (try dsimp only at hSw); obtain ⟨s0, s1, s2, s3, s4, s5, s6, s7, s8, s9, s10, s11, s12⟩ := hSw; go_simp; (try with_reducible rfl); done)
              try simp only [List.getElem_toArray, List.getElem_cons_zero, List.getElem_cons_succ, Act.put, List.setIfInBounds_toArray, List.set_cons_zero, List.set_cons_succ]
              refine wpAnyH_take (i := 13) (oi := _) (v := ?_) rfl (by kernel_rfl) (by kernel_rfl) (by kernel_rfl) (fun _ _ _ h => h) (Or.inl ⟨by kernel_rfl, ?_⟩) (by assumption) ?_
              rotate_left 1
              focus (intro wq hSw; (try dsimp only at hSw); obtain ⟨s0, s1, s2, s3, s4, s5, s6, s7, s8, s9, s10, s11, s12⟩ := hSw; go_simp; (try with_reducible rfl); done)
              try simp only [List.getElem_toArray, List.getElem_cons_zero, List.getElem_cons_succ, Act.put, List.setIfInBounds_toArray, List.set_cons_zero, List.set_cons_succ]
              refine wpAnyH_take (i := 14) (oi := _) (v := ?_) rfl (by kernel_rfl) (by kernel_rfl) (by kernel_rfl) (fun _ _ _ h => h) (Or.inl ⟨by kernel_rfl, ?_⟩) (by assumption) ?_
              rotate_left 1
              focus (intro wq hSw; (try dsimp only at hSw); obtain ⟨s0, s1, s2, s3, s4, s5, s6, s7, s8, s9, s10, s11, s12⟩ := hSw; go_simp; (try with_reducible rfl); done)
              try simp only [List.getElem_toArray, List.getElem_cons_zero, List.getElem_cons_succ, Act.put, List.setIfInBounds_toArray, List.set_cons_zero, List.set_cons_succ]
              refine wpAnyH_take (i := 16) (oi := _) (v := ?_) rfl (by kernel_rfl) (by kernel_rfl) (by kernel_rfl) (fun _ _ _ h => h) (Or.inl ⟨by kernel_rfl, ?_⟩) (by assumption) ?_
              rotate_left 1
              focus (intro wq hSw; (try dsimp only at hSw); obtain ⟨s0, s1, s2, s3, s4, s5, s6, s7, s8, s9, s10, s11, s12⟩ := hSw; go_simp; (try with_reducible rfl); done)
              try simp only [List.getElem_toArray, List.getElem_cons_zero, List.getElem_cons_succ, Act.put, List.setIfInBounds_toArray, List.set_cons_zero, List.set_cons_succ]
              refine wpAnyH_take (i := 17) (oi := _) (v := ?_) rfl (by kernel_rfl) (by kernel_rfl) (by kernel_rfl) (fun _ _ _ h => h) (Or.inl ⟨by kernel_rfl, ?_⟩) (by assumption) ?_
              rotate_left 1
              focus (intro wq hSw; (try dsimp only at hSw); obtain ⟨s0, s1, s2, s3, s4, s5, s6, s7, s8, s9, s10, s11, s12⟩ := hSw; go_simp; (try with_reducible rfl); done)
              try simp only [List.getElem_toArray, List.getElem_cons_zero, List.getElem_cons_succ, Act.put, List.setIfInBounds_toArray, List.set_cons_zero, List.set_cons_succ]
              refine wpAnyH_ready (rs := [15]) (by kernel_rfl) (by simp) ?_
              refine AllReadyH.cons (o := _) rfl (fun K hK => ?_) AllReadyH.nil
              rw [if_pos (by kernel_rfl)]
              go_simp
              (go_at_call 10; (with_reducible refine (CB.out _ hHeld.2.2.2.2.2.2.2.2.2.2.2.2.out.1).mono ?_); rintro e z80 ⟨rfl, q⟩; have q := q.out)
              first | refine hK.out _ _ ?_ (fun hHeld => ?_) | (go_wp2_with fail; refine hK.out _ _ ?_ (fun hHeld => ?_))
              · exact HS.out _ (hHeld.2.2.2.2.2.2.2.2.2.2.2.2.out.1.keep q) (hHeld.2.2.2.2.2.2.2.2.2.2.2.2.out.2.trans (q.mono hHeld.2.2.2.2.2.2.2.2.2.2.2.2.out.2.size))
              clear hK K
              try simp only [List.getElem_toArray, List.getElem_cons_zero, List.getElem_cons_succ, Act.put, List.setIfInBounds_toArray, List.set_cons_zero, List.set_cons_succ]
              refine wpAnyH_ready (rs := [18]) (by kernel_rfl) (by simp) ?_
              refine AllReadyH.cons (o := _) rfl (fun K hK => ?_) AllReadyH.nil
              rw [if_pos (by kernel_rfl)]
              go_simp
              (go_at_call 10; (with_reducible refine (CL.out _ hHeld.2.2.2.2.2.2.2.2.2.2.2.2.out.1).mono ?_); rintro e z83 ⟨rfl, q⟩; have q := q.out)
              first | refine hK.out _ _ ?_ (fun hHeld => ?_) | (go_wp2_with fail; refine hK.out _ _ ?_ (fun hHeld => ?_))
              · exact HS.out _ (hHeld.2.2.2.2.2.2.2.2.2.2.2.2.out.1.keep q) (hHeld.2.2.2.2.2.2.2.2.2.2.2.2.out.2.trans (q.mono hHeld.2.2.2.2.2.2.2.2.2.2.2.2.out.2.size))
              clear hK K
              try simp only [List.getElem_toArray, List.getElem_cons_zero, List.getElem_cons_succ, Act.put, List.setIfInBounds_toArray, List.set_cons_zero, List.set_cons_succ]
              refine wpAnyH_take (i := 19) (oi := _) (v := ?_) rfl (by kernel_rfl) (by kernel_rfl) (by kernel_rfl) (fun _ _ _ h => h) (Or.inl ⟨by kernel_rfl, ?_⟩) (by assumption) ?_
              rotate_left 1
              focus (intro wq hSw; (try dsimp only at hSw); obtain ⟨s0, s1, s2, s3, s4, s5, s6, s7, s8, s9, s10, s11, s12⟩ := hSw; go_simp; (try with_reducible rfl); done)
              try simp only [List.getElem_toArray, List.getElem_cons_zero, List.getElem_cons_succ, Act.put, List.setIfInBounds_toArray, List.set_cons_zero, List.set_cons_succ]
              refine wpAnyH_take (i := 20) (oi := _) (v := ?_) rfl (by kernel_rfl) (by kernel_rfl) (by kernel_rfl) (fun _ _ _ h => h) (Or.inl ⟨by kernel_rfl, ?_⟩) (by assumption) ?_
              rotate_left 1
              focus (intro wq hSw; (try dsimp only at hSw); obtain ⟨s0, s1, s2, s3, s4, s5, s6, s7, s8, s9, s10, s11, s12⟩ := hSw; go_simp; (try with_reducible rfl); done)
              try simp only [List.getElem_toArray, List.getElem_cons_zero, List.getElem_cons_succ, Act.put, List.setIfInBounds_toArray, List.set_cons_zero, List.set_cons_succ]
              refine wpAnyH_take (i := 21) (oi := _) (v := ?_) rfl (by kernel_rfl) (by kernel_rfl) (by kernel_rfl) (fun _ _ _ h => h) (Or.inl ⟨by kernel_rfl, ?_⟩) (by assumption) ?_
              rotate_left 1
              focus (intro wq hSw; (try dsimp only at hSw); obtain ⟨s0, s1, s2, s3, s4, s5, s6, s7, s8, s9, s10, s11, s12⟩ := hSw; go_simp; (try with_reducible rfl); done)
              try simp only [List.getElem_toArray, List.getElem_cons_zero, List.getElem_cons_succ, Act.put, List.setIfInBounds_toArray, List.set_cons_zero, List.set_cons_succ]
              refine wpAnyH_ready (rs := [22]) (by kernel_rfl) (by simp) ?_
              refine AllReadyH.cons (o := _) rfl (fun K hK => ?_) AllReadyH.nil
              rw [if_pos (by kernel_rfl)]
              go_simp
              (go_at_call 10; (with_reducible refine (CH.out _ hHeld.2.2.2.2.2.2.2.2.2.2.2.2.out.1).mono ?_); rintro e z87 ⟨rfl, q⟩; have q := q.out)
              first | refine hK.out _ _ ?_ (fun hHeld => ?_) | (go_wp2_with fail; refine hK.out _ _ ?_ (fun hHeld => ?_))
              · exact HS.out _ (hHeld.2.2.2.2.2.2.2.2.2.2.2.2.out.1.keep q) (hHeld.2.2.2.2.2.2.2.2.2.2.2.2.out.2.trans (q.mono hHeld.2.2.2.2.2.2.2.2.2.2.2.2.out.2.size))
              clear hK K
              try simp only [List.getElem_toArray, List.getElem_cons_zero, List.getElem_cons_succ, Act.put, List.setIfInBounds_toArray, List.set_cons_zero, List.set_cons_succ]
              refine wpAnyH_take (i := 23) (oi := _) (v := ?_) rfl (by kernel_rfl) (by kernel_rfl) (by kernel_rfl) (fun _ _ _ h => h) (Or.inl ⟨by kernel_rfl, ?_⟩) (by assumption) ?_
              rotate_left 1
              focus (intro wq hSw; (try dsimp only at hSw); obtain ⟨s0, s1, s2, s3, s4, s5, s6, s7, s8, s9, s10, s11, s12⟩ := hSw; go_simp; (try with_reducible rfl); done)
              try simp only [List.getElem_toArray, List.getElem_cons_zero, List.getElem_cons_succ, Act.put, List.setIfInBounds_toArray, List.set_cons_zero, List.set_cons_succ]
              refine wpAnyH_take (i := 24) (oi := _) (v := ?_) rfl (by kernel_rfl) (by kernel_rfl) (by kernel_rfl) (fun _ _ _ h => h) (Or.inl ⟨by kernel_rfl, ?_⟩) (by assumption) ?_
              rotate_left 1
              focus (intro wq hSw; (try dsimp only at hSw); obtain ⟨s0, s1, s2, s3, s4, s5, s6, s7, s8, s9, s10, s11, s12⟩ := hSw; go_simp; (try with_reducible rfl); done)
              try simp only [List.getElem_toArray, List.getElem_cons_zero, List.getElem_cons_succ, Act.put, List.setIfInBounds_toArray, List.set_cons_zero, List.set_cons_succ]
              refine wpAnyH_take (i := 25) (oi := _) (v := ?_) rfl (by kernel_rfl) (by kernel_rfl) (by kernel_rfl) (fun _ _ _ h => h) (Or.inl ⟨by kernel_rfl, ?_⟩) (by assumption) ?_
              rotate_left 1
              focus (intro wq hSw; (try dsimp only at hSw); obtain ⟨s0, s1, s2, s3, s4, s5, s6, s7, s8, s9, s10, s11, s12⟩ := hSw; go_simp; (try with_reducible rfl); done)
              try simp only [List.getElem_toArray, List.getElem_cons_zero, List.getElem_cons_succ, Act.put, List.setIfInBounds_toArray, List.set_cons_zero, List.set_cons_succ]
              refine wpAnyH_done (by kernel_rfl) ?_ _
              have HL := Lib.hid hHeld.2.2.2.2.2.2.2.2.2.2.2.2.out
              clear hHeld
              go_wp2
              go_meet
              case rel => exact ⟨rfl, Lib.hid HL.out.2⟩
            · have CL : Hid (∀ W, TR ⟨P, N, co, cn, cc, oo, on, oc, cs, os⟩ x y g1 gt bn bt W → Calls Try.prog 10 #[.agg #[.int .i64 (lo), .int .i64 (0), .bool true, .bool false], .pointer (some ⟨bn, 0, none⟩), .pointer (some ⟨bt, 0, none⟩)] W fun e w' => e = .returned (.bool false) ∧ Hid (Below W.heap.size W w')) := Lib.hid (fun W h => clo_any ⟨P, N, co, cn, cc, oo, on, oc, cs, os⟩ x y ia ib oa ob HRT.out HOK.out HCN.out Hx.out Hy.out HOWN.out g1 gt bn bt (lo) (0) true false W h false (by rw [HD.out]; exact ⟨fun z => (by cases z), fun z => absurd (z.2.2.1 rfl) c1⟩))
              have CH : Hid (∀ W, TR ⟨P, N, co, cn, cc, oo, on, oc, cs, os⟩ x y g1 gt bn bt W → Calls Try.prog 10 #[.agg #[.int .i64 (0), .int .i64 (hi), .bool false, .bool true], .pointer (some ⟨bn, 0, none⟩), .pointer (some ⟨bt, 0, none⟩)] W fun e w' => e = .returned (.bool true) ∧ Hid (Below W.heap.size W w')) := Lib.hid (fun W h => clo_any ⟨P, N, co, cn, cc, oo, on, oc, cs, os⟩ x y ia ib oa ob HRT.out HOK.out HCN.out Hx.out Hy.out HOWN.out g1 gt bn bt (0) (hi) false true W h true (by rw [HD.out]; exact ⟨fun _ => ⟨HO2.out.1, HO2.out.2, (fun z => by cases z), fun _ => c2⟩, fun _ => rfl⟩))
              have CB : Hid (∀ W, TR ⟨P, N, co, cn, cc, oo, on, oc, cs, os⟩ x y g1 gt bn bt W → Calls Try.prog 10 #[.agg #[.int .i64 (lo), .int .i64 (hi), .bool true, .bool true], .pointer (some ⟨bn, 0, none⟩), .pointer (some ⟨bt, 0, none⟩)] W fun e w' => e = .returned (.bool false) ∧ Hid (Below W.heap.size W w')) := Lib.hid (fun W h => clo_any ⟨P, N, co, cn, cc, oo, on, oc, cs, os⟩ x y ia ib oa ob HRT.out HOK.out HCN.out Hx.out Hy.out HOWN.out g1 gt bn bt (lo) (hi) true true W h false (by rw [HD.out]; exact ⟨fun z => (by cases z), fun z => absurd (z.2.2.1 rfl) c1⟩))
              clear HOKB HRT HOK HCN Hx Hy HOWN HLN HO2 c1 c2
              refine wp_region_held_drew (S := (fun W => W.cell? ⟨b16, 0, none⟩ = some (.int .i64 lo) ∧ W.cell? ⟨b16, 1, none⟩ = some (.int .i64 0) ∧ W.cell? ⟨b16, 2, none⟩ = some (.bool true) ∧ W.cell? ⟨b16, 3, none⟩ = some (.bool false) ∧ W.cell? ⟨b17, 0, none⟩ = some (.int .i64 0) ∧ W.cell? ⟨b17, 1, none⟩ = some (.int .i64 hi) ∧ W.cell? ⟨b17, 2, none⟩ = some (.bool false) ∧ W.cell? ⟨b17, 3, none⟩ = some (.bool true) ∧ W.cell? ⟨b18, 0, none⟩ = some (.int .i64 lo) ∧ W.cell? ⟨b18, 1, none⟩ = some (.int .i64 hi) ∧ W.cell? ⟨b18, 2, none⟩ = some (.bool true) ∧ W.cell? ⟨b18, 3, none⟩ = some (.bool true) ∧ Hid (TR ⟨P, N, co, cn, cc, oo, on, oc, cs, os⟩ x y g1 gt bn bt W ∧ Below wl.heap.size wl W))) (by kernel_rfl) ?_ (fun hHeld => ?_)
              · exact HS.out _ (HTR.out.keep (Below.refl _ _).drew) (Below.refl _ _).drew
              refine wpAnyH_take (i := 0) (oi := _) (v := ?_) rfl (by kernel_rfl) (by kernel_rfl) (by kernel_rfl) (fun _ _ _ h => h) (Or.inl ⟨by kernel_rfl, ?_⟩) (by assumption) ?_
              rotate_left 1
              focus (intro wq hSw; (try dsimp only at hSw); obtain ⟨s0, s1, s2, s3, s4, s5, s6, s7, s8, s9, s10, s11, s12⟩ := hSw; go_simp; (try with_reducible rfl); done)
              try simp only [List.getElem_toArray, List.getElem_cons_zero, List.getElem_cons_succ, Act.put, List.setIfInBounds_toArray, List.set_cons_zero, List.set_cons_succ]
              refine wpAnyH_take (i := 1) (oi := _) (v := ?_) rfl (by kernel_rfl) (by kernel_rfl) (by kernel_rfl) (fun _ _ _ h => h) (Or.inl ⟨by kernel_rfl, ?_⟩) (by assumption) ?_
              rotate_left 1
              focus (intro wq hSw; (try dsimp only at hSw); obtain ⟨s0, s1, s2, s3, s4, s5, s6, s7, s8, s9, s10, s11, s12⟩ := hSw; go_simp; (try with_reducible rfl); done)
              try simp only [List.getElem_toArray, List.getElem_cons_zero, List.getElem_cons_succ, Act.put, List.setIfInBounds_toArray, List.set_cons_zero, List.set_cons_succ]
              refine wpAnyH_ready (rs := [2]) (by kernel_rfl) (by simp) ?_
              refine AllReadyH.cons (o := _) rfl (fun K hK => ?_) AllReadyH.nil
              rw [if_pos (by kernel_rfl)]
              go_simp
              (go_at_call 10; (with_reducible refine (CL.out _ hHeld.2.2.2.2.2.2.2.2.2.2.2.2.out.1).mono ?_); rintro e z67 ⟨rfl, q⟩; have q := q.out)
              first | refine hK.out _ _ ?_ (fun hHeld => ?_) | (go_wp2_with fail; refine hK.out _ _ ?_ (fun hHeld => ?_))
              · exact HS.out _ (hHeld.2.2.2.2.2.2.2.2.2.2.2.2.out.1.keep q) (hHeld.2.2.2.2.2.2.2.2.2.2.2.2.out.2.trans (q.mono hHeld.2.2.2.2.2.2.2.2.2.2.2.2.out.2.size))
              clear hK K
              try simp only [List.getElem_toArray, List.getElem_cons_zero, List.getElem_cons_succ, Act.put, List.setIfInBounds_toArray, List.set_cons_zero, List.set_cons_succ]
              refine wpAnyH_take (i := 3) (oi := _) (v := ?_) rfl (by kernel_rfl) (by kernel_rfl) (by kernel_rfl) (fun _ _ _ h => h) (Or.inl ⟨by kernel_rfl, ?_⟩) (by assumption) ?_
              rotate_left 1
              focus (intro wq hSw; (try dsimp only at hSw); obtain ⟨s0, s1, s2, s3, s4, s5, s6, s7, s8, s9, s10, s11, s12⟩ := hSw; go_simp; (try with_reducible rfl); done)
              try simp only [List.getElem_toArray, List.getElem_cons_zero, List.getElem_cons_succ, Act.put, List.setIfInBounds_toArray, List.set_cons_zero, List.set_cons_succ]
              refine wpAnyH_take (i := 4) (oi := _) (v := ?_) rfl (by kernel_rfl) (by kernel_rfl) (by kernel_rfl) (fun _ _ _ h => h) (Or.inl ⟨by kernel_rfl, ?_⟩) (by assumption) ?_
              rotate_left 1
              focus (intro wq hSw; (try dsimp only at hSw); obtain ⟨s0, s1, s2, s3, s4, s5, s6, s7, s8, s9, s10, s11, s12⟩ := hSw; go_simp; (try with_reducible rfl); done)
              try simp only [List.getElem_toArray, List.getElem_cons_zero, List.getElem_cons_succ, Act.put, List.setIfInBounds_toArray, List.set_cons_zero, List.set_cons_succ]
              refine wpAnyH_take (i := 5) (oi := _) (v := ?_) rfl (by kernel_rfl) (by kernel_rfl) (by kernel_rfl) (fun _ _ _ h => h) (Or.inl ⟨by kernel_rfl, ?_⟩) (by assumption) ?_
              rotate_left 1
              focus (intro wq hSw; (try dsimp only at hSw); obtain ⟨s0, s1, s2, s3, s4, s5, s6, s7, s8, s9, s10, s11, s12⟩ := hSw; go_simp; (try with_reducible rfl); done)
              try simp only [List.getElem_toArray, List.getElem_cons_zero, List.getElem_cons_succ, Act.put, List.setIfInBounds_toArray, List.set_cons_zero, List.set_cons_succ]
              refine wpAnyH_ready (rs := [6]) (by kernel_rfl) (by simp) ?_
              refine AllReadyH.cons (o := _) rfl (fun K hK => ?_) AllReadyH.nil
              rw [if_pos (by kernel_rfl)]
              go_simp
              (go_at_call 10; (with_reducible refine (CH.out _ hHeld.2.2.2.2.2.2.2.2.2.2.2.2.out.1).mono ?_); rintro e z71 ⟨rfl, q⟩; have q := q.out)
              first | refine hK.out _ _ ?_ (fun hHeld => ?_) | (go_wp2_with fail; refine hK.out _ _ ?_ (fun hHeld => ?_))
              · exact HS.out _ (hHeld.2.2.2.2.2.2.2.2.2.2.2.2.out.1.keep q) (hHeld.2.2.2.2.2.2.2.2.2.2.2.2.out.2.trans (q.mono hHeld.2.2.2.2.2.2.2.2.2.2.2.2.out.2.size))
              clear hK K
              try simp only [List.getElem_toArray, List.getElem_cons_zero, List.getElem_cons_succ, Act.put, List.setIfInBounds_toArray, List.set_cons_zero, List.set_cons_succ]
              refine wpAnyH_take (i := 7) (oi := _) (v := ?_) rfl (by kernel_rfl) (by kernel_rfl) (by kernel_rfl) (fun _ _ _ h => h) (Or.inl ⟨by kernel_rfl, ?_⟩) (by assumption) ?_
              rotate_left 1
              focus (intro wq hSw; (try dsimp only at hSw); obtain ⟨s0, s1, s2, s3, s4, s5, s6, s7, s8, s9, s10, s11, s12⟩ := hSw; go_simp; (try with_reducible rfl); done)
              try simp only [List.getElem_toArray, List.getElem_cons_zero, List.getElem_cons_succ, Act.put, List.setIfInBounds_toArray, List.set_cons_zero, List.set_cons_succ]
              refine wpAnyH_take (i := 8) (oi := _) (v := ?_) rfl (by kernel_rfl) (by kernel_rfl) (by kernel_rfl) (fun _ _ _ h => h) (Or.inl ⟨by kernel_rfl, ?_⟩) (by assumption) ?_
              rotate_left 1
              focus (intro wq hSw; (try dsimp only at hSw); obtain ⟨s0, s1, s2, s3, s4, s5, s6, s7, s8, s9, s10, s11, s12⟩ := hSw; go_simp; (try with_reducible rfl); done)
              try simp only [List.getElem_toArray, List.getElem_cons_zero, List.getElem_cons_succ, Act.put, List.setIfInBounds_toArray, List.set_cons_zero, List.set_cons_succ]
              refine wpAnyH_take (i := 9) (oi := _) (v := ?_) rfl (by kernel_rfl) (by kernel_rfl) (by kernel_rfl) (fun _ _ _ h => h) (Or.inl ⟨by kernel_rfl, ?_⟩) (by assumption) ?_
              rotate_left 1
              focus (intro wq hSw; (try dsimp only at hSw); obtain ⟨s0, s1, s2, s3, s4, s5, s6, s7, s8, s9, s10, s11, s12⟩ := hSw; go_simp; (try with_reducible rfl); done)
              try simp only [List.getElem_toArray, List.getElem_cons_zero, List.getElem_cons_succ, Act.put, List.setIfInBounds_toArray, List.set_cons_zero, List.set_cons_succ]
              refine wpAnyH_take (i := 10) (oi := _) (v := ?_) rfl (by kernel_rfl) (by kernel_rfl) (by kernel_rfl) (fun _ _ _ h => h) (Or.inl ⟨by kernel_rfl, ?_⟩) (by assumption) ?_
              rotate_left 1
              focus (intro wq hSw; (try dsimp only at hSw); obtain ⟨s0, s1, s2, s3, s4, s5, s6, s7, s8, s9, s10, s11, s12⟩ := hSw; go_simp; (try with_reducible rfl); done)
              try simp only [List.getElem_toArray, List.getElem_cons_zero, List.getElem_cons_succ, Act.put, List.setIfInBounds_toArray, List.set_cons_zero, List.set_cons_succ]
              refine wpAnyH_take (i := 11) (oi := _) (v := ?_) rfl (by kernel_rfl) (by kernel_rfl) (by kernel_rfl) (fun _ _ _ h => h) (Or.inl ⟨by kernel_rfl, ?_⟩) (by assumption) ?_
              rotate_left 1
              focus (intro wq hSw; (try dsimp only at hSw); obtain ⟨s0, s1, s2, s3, s4, s5, s6, s7, s8, s9, s10, s11, s12⟩ := hSw; go_simp; (try with_reducible rfl); done)
              try simp only [List.getElem_toArray, List.getElem_cons_zero, List.getElem_cons_succ, Act.put, List.setIfInBounds_toArray, List.set_cons_zero, List.set_cons_succ]
              refine wpAnyH_take (i := 12) (oi := _) (v := ?_) rfl (by kernel_rfl) (by kernel_rfl) (by kernel_rfl) (fun _ _ _ h => h) (Or.inl ⟨by kernel_rfl, ?_⟩) (by assumption) ?_
              rotate_left 1
              focus (intro wq hSw; (try dsimp only at hSw); obtain ⟨s0, s1, s2, s3, s4, s5, s6, s7, s8, s9, s10, s11, s12⟩ := hSw; go_simp; (try with_reducible rfl); done)
              try simp only [List.getElem_toArray, List.getElem_cons_zero, List.getElem_cons_succ, Act.put, List.setIfInBounds_toArray, List.set_cons_zero, List.set_cons_succ]
              refine wpAnyH_take (i := 13) (oi := _) (v := ?_) rfl (by kernel_rfl) (by kernel_rfl) (by kernel_rfl) (fun _ _ _ h => h) (Or.inl ⟨by kernel_rfl, ?_⟩) (by assumption) ?_
              rotate_left 1
              focus (intro wq hSw; (try dsimp only at hSw); obtain ⟨s0, s1, s2, s3, s4, s5, s6, s7, s8, s9, s10, s11, s12⟩ := hSw; go_simp; (try with_reducible rfl); done)
              try simp only [List.getElem_toArray, List.getElem_cons_zero, List.getElem_cons_succ, Act.put, List.setIfInBounds_toArray, List.set_cons_zero, List.set_cons_succ]
              refine wpAnyH_take (i := 14) (oi := _) (v := ?_) rfl (by kernel_rfl) (by kernel_rfl) (by kernel_rfl) (fun _ _ _ h => h) (Or.inl ⟨by kernel_rfl, ?_⟩) (by assumption) ?_
              rotate_left 1
              focus (intro wq hSw; (try dsimp only at hSw); obtain ⟨s0, s1, s2, s3, s4, s5, s6, s7, s8, s9, s10, s11, s12⟩ := hSw; go_simp; (try with_reducible rfl); done)
              try simp only [List.getElem_toArray, List.getElem_cons_zero, List.getElem_cons_succ, Act.put, List.setIfInBounds_toArray, List.set_cons_zero, List.set_cons_succ]
              refine wpAnyH_take (i := 16) (oi := _) (v := ?_) rfl (by kernel_rfl) (by kernel_rfl) (by kernel_rfl) (fun _ _ _ h => h) (Or.inl ⟨by kernel_rfl, ?_⟩) (by assumption) ?_
              rotate_left 1
              focus (intro wq hSw; (try dsimp only at hSw); obtain ⟨s0, s1, s2, s3, s4, s5, s6, s7, s8, s9, s10, s11, s12⟩ := hSw; go_simp; (try with_reducible rfl); done)
              try simp only [List.getElem_toArray, List.getElem_cons_zero, List.getElem_cons_succ, Act.put, List.setIfInBounds_toArray, List.set_cons_zero, List.set_cons_succ]
              refine wpAnyH_take (i := 17) (oi := _) (v := ?_) rfl (by kernel_rfl) (by kernel_rfl) (by kernel_rfl) (fun _ _ _ h => h) (Or.inl ⟨by kernel_rfl, ?_⟩) (by assumption) ?_
              rotate_left 1
              focus (intro wq hSw; (try dsimp only at hSw); obtain ⟨s0, s1, s2, s3, s4, s5, s6, s7, s8, s9, s10, s11, s12⟩ := hSw; go_simp; (try with_reducible rfl); done)
              try simp only [List.getElem_toArray, List.getElem_cons_zero, List.getElem_cons_succ, Act.put, List.setIfInBounds_toArray, List.set_cons_zero, List.set_cons_succ]
              refine wpAnyH_ready (rs := [15]) (by kernel_rfl) (by simp) ?_
              refine AllReadyH.cons (o := _) rfl (fun K hK => ?_) AllReadyH.nil
              rw [if_pos (by kernel_rfl)]
              go_simp
              (go_at_call 10; (with_reducible refine (CB.out _ hHeld.2.2.2.2.2.2.2.2.2.2.2.2.out.1).mono ?_); rintro e z80 ⟨rfl, q⟩; have q := q.out)
              first | refine hK.out _ _ ?_ (fun hHeld => ?_) | (go_wp2_with fail; refine hK.out _ _ ?_ (fun hHeld => ?_))
              · exact HS.out _ (hHeld.2.2.2.2.2.2.2.2.2.2.2.2.out.1.keep q) (hHeld.2.2.2.2.2.2.2.2.2.2.2.2.out.2.trans (q.mono hHeld.2.2.2.2.2.2.2.2.2.2.2.2.out.2.size))
              clear hK K
              try simp only [List.getElem_toArray, List.getElem_cons_zero, List.getElem_cons_succ, Act.put, List.setIfInBounds_toArray, List.set_cons_zero, List.set_cons_succ]
              refine wpAnyH_ready (rs := [18]) (by kernel_rfl) (by simp) ?_
              refine AllReadyH.cons (o := _) rfl (fun K hK => ?_) AllReadyH.nil
              rw [if_pos (by kernel_rfl)]
              go_simp
              (go_at_call 10; (with_reducible refine (CL.out _ hHeld.2.2.2.2.2.2.2.2.2.2.2.2.out.1).mono ?_); rintro e z83 ⟨rfl, q⟩; have q := q.out)
              first | refine hK.out _ _ ?_ (fun hHeld => ?_) | (go_wp2_with fail; refine hK.out _ _ ?_ (fun hHeld => ?_))
              · exact HS.out _ (hHeld.2.2.2.2.2.2.2.2.2.2.2.2.out.1.keep q) (hHeld.2.2.2.2.2.2.2.2.2.2.2.2.out.2.trans (q.mono hHeld.2.2.2.2.2.2.2.2.2.2.2.2.out.2.size))
              clear hK K
              try simp only [List.getElem_toArray, List.getElem_cons_zero, List.getElem_cons_succ, Act.put, List.setIfInBounds_toArray, List.set_cons_zero, List.set_cons_succ]
              refine wpAnyH_take (i := 19) (oi := _) (v := ?_) rfl (by kernel_rfl) (by kernel_rfl) (by kernel_rfl) (fun _ _ _ h => h) (Or.inl ⟨by kernel_rfl, ?_⟩) (by assumption) ?_
              rotate_left 1
              focus (intro wq hSw; (try dsimp only at hSw); obtain ⟨s0, s1, s2, s3, s4, s5, s6, s7, s8, s9, s10, s11, s12⟩ := hSw; go_simp; (try with_reducible rfl); done)
              try simp only [List.getElem_toArray, List.getElem_cons_zero, List.getElem_cons_succ, Act.put, List.setIfInBounds_toArray, List.set_cons_zero, List.set_cons_succ]
              refine wpAnyH_take (i := 20) (oi := _) (v := undef) rfl (by kernel_rfl) (by kernel_rfl) (by kernel_rfl) (fun _ _ _ h => h) (Or.inr ⟨by kernel_rfl, rfl⟩) (by assumption) ?_
              try simp only [List.getElem_toArray, List.getElem_cons_zero, List.getElem_cons_succ, Act.put, List.setIfInBounds_toArray, List.set_cons_zero, List.set_cons_succ]
              refine wpAnyH_take (i := 21) (oi := _) (v := undef) rfl (by kernel_rfl) (by kernel_rfl) (by kernel_rfl) (fun _ _ _ h => h) (Or.inr ⟨by kernel_rfl, rfl⟩) (by assumption) ?_
              try simp only [List.getElem_toArray, List.getElem_cons_zero, List.getElem_cons_succ, Act.put, List.setIfInBounds_toArray, List.set_cons_zero, List.set_cons_succ]
              refine wpAnyH_take (i := 22) (oi := _) (v := undef) rfl (by kernel_rfl) (by kernel_rfl) (by kernel_rfl) (fun _ _ _ h => h) (Or.inr ⟨by kernel_rfl, rfl⟩) (by assumption) ?_
              try simp only [List.getElem_toArray, List.getElem_cons_zero, List.getElem_cons_succ, Act.put, List.setIfInBounds_toArray, List.set_cons_zero, List.set_cons_succ]
              refine wpAnyH_take (i := 23) (oi := _) (v := ?_) rfl (by kernel_rfl) (by kernel_rfl) (by kernel_rfl) (fun _ _ _ h => h) (Or.inl ⟨by kernel_rfl, ?_⟩) (by assumption) ?_
              rotate_left 1
              focus (intro wq hSw; (try dsimp only at hSw); obtain ⟨s0, s1, s2, s3, s4, s5, s6, s7, s8, s9, s10, s11, s12⟩ := hSw; go_simp; (try with_reducible rfl); done)
              try simp only [List.getElem_toArray, List.getElem_cons_zero, List.getElem_cons_succ, Act.put, List.setIfInBounds_toArray, List.set_cons_zero, List.set_cons_succ]
              refine wpAnyH_take (i := 24) (oi := _) (v := ?_) rfl (by kernel_rfl) (by kernel_rfl) (by kernel_rfl) (fun _ _ _ h => h) (Or.inl ⟨by kernel_rfl, ?_⟩) (by assumption) ?_
              rotate_left 1
              focus (intro wq hSw; (try dsimp only at hSw); obtain ⟨s0, s1, s2, s3, s4, s5, s6, s7, s8, s9, s10, s11, s12⟩ := hSw; go_simp; (try with_reducible rfl); done)
              try simp only [List.getElem_toArray, List.getElem_cons_zero, List.getElem_cons_succ, Act.put, List.setIfInBounds_toArray, List.set_cons_zero, List.set_cons_succ]
              refine wpAnyH_take (i := 25) (oi := _) (v := ?_) rfl (by kernel_rfl) (by kernel_rfl) (by kernel_rfl) (fun _ _ _ h => h) (Or.inl ⟨by kernel_rfl, ?_⟩) (by assumption) ?_
              rotate_left 1
              focus (intro wq hSw; (try dsimp only at hSw); obtain ⟨s0, s1, s2, s3, s4, s5, s6, s7, s8, s9, s10, s11, s12⟩ := hSw; go_simp; (try with_reducible rfl); done)
              try simp only [List.getElem_toArray, List.getElem_cons_zero, List.getElem_cons_succ, Act.put, List.setIfInBounds_toArray, List.set_cons_zero, List.set_cons_succ]
              refine wpAnyH_done (by kernel_rfl) ?_ _
              have HL := Lib.hid hHeld.2.2.2.2.2.2.2.2.2.2.2.2.out
              clear hHeld
              go_wp2
              go_meet
              case rel => exact ⟨rfl, Lib.hid HL.out.2⟩
            · have CL : Hid (∀ W, TR ⟨P, N, co, cn, cc, oo, on, oc, cs, os⟩ x y g1 gt bn bt W → Calls Try.prog 10 #[.agg #[.int .i64 (lo), .int .i64 (0), .bool true, .bool false], .pointer (some ⟨bn, 0, none⟩), .pointer (some ⟨bt, 0, none⟩)] W fun e w' => e = .returned (.bool false) ∧ Hid (Below W.heap.size W w')) := Lib.hid (fun W h => clo_any ⟨P, N, co, cn, cc, oo, on, oc, cs, os⟩ x y ia ib oa ob HRT.out HOK.out HCN.out Hx.out Hy.out HOWN.out g1 gt bn bt (lo) (0) true false W h false (by rw [HD.out]; exact ⟨fun z => (by cases z), fun z => absurd (z.2.2.1 rfl) c1⟩))
              have CH : Hid (∀ W, TR ⟨P, N, co, cn, cc, oo, on, oc, cs, os⟩ x y g1 gt bn bt W → Calls Try.prog 10 #[.agg #[.int .i64 (0), .int .i64 (hi), .bool false, .bool true], .pointer (some ⟨bn, 0, none⟩), .pointer (some ⟨bt, 0, none⟩)] W fun e w' => e = .returned (.bool false) ∧ Hid (Below W.heap.size W w')) := Lib.hid (fun W h => clo_any ⟨P, N, co, cn, cc, oo, on, oc, cs, os⟩ x y ia ib oa ob HRT.out HOK.out HCN.out Hx.out Hy.out HOWN.out g1 gt bn bt (0) (hi) false true W h false (by rw [HD.out]; exact ⟨fun z => (by cases z), fun z => absurd (z.2.2.2 rfl) c2⟩))
              have CB : Hid (∀ W, TR ⟨P, N, co, cn, cc, oo, on, oc, cs, os⟩ x y g1 gt bn bt W → Calls Try.prog 10 #[.agg #[.int .i64 (lo), .int .i64 (hi), .bool true, .bool true], .pointer (some ⟨bn, 0, none⟩), .pointer (some ⟨bt, 0, none⟩)] W fun e w' => e = .returned (.bool false) ∧ Hid (Below W.heap.size W w')) := Lib.hid (fun W h => clo_any ⟨P, N, co, cn, cc, oo, on, oc, cs, os⟩ x y ia ib oa ob HRT.out HOK.out HCN.out Hx.out Hy.out HOWN.out g1 gt bn bt (lo) (hi) true true W h false (by rw [HD.out]; exact ⟨fun z => (by cases z), fun z => absurd (z.2.2.1 rfl) c1⟩))
              clear HOKB HRT HOK HCN Hx Hy HOWN HLN HO2 c1 c2
              refine wp_region_held_drew (S := (fun W => W.cell? ⟨b16, 0, none⟩ = some (.int .i64 lo) ∧ W.cell? ⟨b16, 1, none⟩ = some (.int .i64 0) ∧ W.cell? ⟨b16, 2, none⟩ = some (.bool true) ∧ W.cell? ⟨b16, 3, none⟩ = some (.bool false) ∧ W.cell? ⟨b17, 0, none⟩ = some (.int .i64 0) ∧ W.cell? ⟨b17, 1, none⟩ = some (.int .i64 hi) ∧ W.cell? ⟨b17, 2, none⟩ = some (.bool false) ∧ W.cell? ⟨b17, 3, none⟩ = some (.bool true) ∧ W.cell? ⟨b18, 0, none⟩ = some (.int .i64 lo) ∧ W.cell? ⟨b18, 1, none⟩ = some (.int .i64 hi) ∧ W.cell? ⟨b18, 2, none⟩ = some (.bool true) ∧ W.cell? ⟨b18, 3, none⟩ = some (.bool true) ∧ Hid (TR ⟨P, N, co, cn, cc, oo, on, oc, cs, os⟩ x y g1 gt bn bt W ∧ Below wl.heap.size wl W))) (by kernel_rfl) ?_ (fun hHeld => ?_)
              · exact HS.out _ (HTR.out.keep (Below.refl _ _).drew) (Below.refl _ _).drew
              refine wpAnyH_take (i := 0) (oi := _) (v := ?_) rfl (by kernel_rfl) (by kernel_rfl) (by kernel_rfl) (fun _ _ _ h => h) (Or.inl ⟨by kernel_rfl, ?_⟩) (by assumption) ?_
              rotate_left 1
              focus (intro wq hSw; (try dsimp only at hSw); obtain ⟨s0, s1, s2, s3, s4, s5, s6, s7, s8, s9, s10, s11, s12⟩ := hSw; go_simp; (try with_reducible rfl); done)
              try simp only [List.getElem_toArray, List.getElem_cons_zero, List.getElem_cons_succ, Act.put, List.setIfInBounds_toArray, List.set_cons_zero, List.set_cons_succ]
              refine wpAnyH_take (i := 1) (oi := _) (v := ?_) rfl (by kernel_rfl) (by kernel_rfl) (by kernel_rfl) (fun _ _ _ h => h) (Or.inl ⟨by kernel_rfl, ?_⟩) (by assumption) ?_
              rotate_left 1
              focus (intro wq hSw; (try dsimp only at hSw); obtain ⟨s0, s1, s2, s3, s4, s5, s6, s7, s8, s9, s10, s11, s12⟩ := hSw; go_simp; (try with_reducible rfl); done)
              try simp only [List.getElem_toArray, List.getElem_cons_zero, List.getElem_cons_succ, Act.put, List.setIfInBounds_toArray, List.set_cons_zero, List.set_cons_succ]
              refine wpAnyH_ready (rs := [2]) (by kernel_rfl) (by simp) ?_
              refine AllReadyH.cons (o := _) rfl (fun K hK => ?_) AllReadyH.nil
              rw [if_pos (by kernel_rfl)]
              go_simp
              (go_at_call 10; (with_reducible refine (CL.out _ hHeld.2.2.2.2.2.2.2.2.2.2.2.2.out.1).mono ?_); rintro e z67 ⟨rfl, q⟩; have q := q.out)
              first | refine hK.out _ _ ?_ (fun hHeld => ?_) | (go_wp2_with fail; refine hK.out _ _ ?_ (fun hHeld => ?_))
              · exact HS.out _ (hHeld.2.2.2.2.2.2.2.2.2.2.2.2.out.1.keep q) (hHeld.2.2.2.2.2.2.2.2.2.2.2.2.out.2.trans (q.mono hHeld.2.2.2.2.2.2.2.2.2.2.2.2.out.2.size))
              clear hK K
              try simp only [List.getElem_toArray, List.getElem_cons_zero, List.getElem_cons_succ, Act.put, List.setIfInBounds_toArray, List.set_cons_zero, List.set_cons_succ]
              refine wpAnyH_take (i := 3) (oi := _) (v := ?_) rfl (by kernel_rfl) (by kernel_rfl) (by kernel_rfl) (fun _ _ _ h => h) (Or.inl ⟨by kernel_rfl, ?_⟩) (by assumption) ?_
              rotate_left 1
              focus (intro wq hSw; (try dsimp only at hSw); obtain ⟨s0, s1, s2, s3, s4, s5, s6, s7, s8, s9, s10, s11, s12⟩ := hSw; go_simp; (try with_reducible rfl); done)
              try simp only [List.getElem_toArray, List.getElem_cons_zero, List.getElem_cons_succ, Act.put, List.setIfInBounds_toArray, List.set_cons_zero, List.set_cons_succ]
              refine wpAnyH_take (i := 4) (oi := _) (v := ?_) rfl (by kernel_rfl) (by kernel_rfl) (by kernel_rfl) (fun _ _ _ h => h) (Or.inl ⟨by kernel_rfl, ?_⟩) (by assumption) ?_
              rotate_left 1
              focus (intro wq hSw; (try dsimp only at hSw); obtain ⟨s0, s1, s2, s3, s4, s5, s6, s7, s8, s9, s10, s11, s12⟩ := hSw; go_simp; (try with_reducible rfl); done)
              try simp only [List.getElem_toArray, List.getElem_cons_zero, List.getElem_cons_succ, Act.put, List.setIfInBounds_toArray, List.set_cons_zero, List.set_cons_succ]
              refine wpAnyH_take (i := 5) (oi := _) (v := ?_) rfl (by kernel_rfl) (by kernel_rfl) (by kernel_rfl) (fun _ _ _ h => h) (Or.inl ⟨by kernel_rfl, ?_⟩) (by assumption) ?_
              rotate_left 1
              focus (intro wq hSw; (try dsimp only at hSw); obtain ⟨s0, s1, s2, s3, s4, s5, s6, s7, s8, s9, s10, s11, s12⟩ := hSw; go_simp; (try with_reducible rfl); done)
              try simp only [List.getElem_toArray, List.getElem_cons_zero, List.getElem_cons_succ, Act.put, List.setIfInBounds_toArray, List.set_cons_zero, List.set_cons_succ]
              refine wpAnyH_ready (rs := [6]) (by kernel_rfl) (by simp) ?_
              refine AllReadyH.cons (o := _) rfl (fun K hK => ?_) AllReadyH.nil
              rw [if_pos (by kernel_rfl)]
              go_simp
              (go_at_call 10; (with_reducible refine (CH.out _ hHeld.2.2.2.2.2.2.2.2.2.2.2.2.out.1).mono ?_); rintro e z71 ⟨rfl, q⟩; have q := q.out)
              first | refine hK.out _ _ ?_ (fun hHeld => ?_) | (go_wp2_with fail; refine hK.out _ _ ?_ (fun hHeld => ?_))
              · exact HS.out _ (hHeld.2.2.2.2.2.2.2.2.2.2.2.2.out.1.keep q) (hHeld.2.2.2.2.2.2.2.2.2.2.2.2.out.2.trans (q.mono hHeld.2.2.2.2.2.2.2.2.2.2.2.2.out.2.size))
              clear hK K
              try simp only [List.getElem_toArray, List.getElem_cons_zero, List.getElem_cons_succ, Act.put, List.setIfInBounds_toArray, List.set_cons_zero, List.set_cons_succ]
              refine wpAnyH_take (i := 7) (oi := _) (v := ?_) rfl (by kernel_rfl) (by kernel_rfl) (by kernel_rfl) (fun _ _ _ h => h) (Or.inl ⟨by kernel_rfl, ?_⟩) (by assumption) ?_
              rotate_left 1
              focus (intro wq hSw; (try dsimp only at hSw); obtain ⟨s0, s1, s2, s3, s4, s5, s6, s7, s8, s9, s10, s11, s12⟩ := hSw; go_simp; (try with_reducible rfl); done)
              try simp only [List.getElem_toArray, List.getElem_cons_zero, List.getElem_cons_succ, Act.put, List.setIfInBounds_toArray, List.set_cons_zero, List.set_cons_succ]
              refine wpAnyH_take (i := 8) (oi := _) (v := ?_) rfl (by kernel_rfl) (by kernel_rfl) (by kernel_rfl) (fun _ _ _ h => h) (Or.inl ⟨by kernel_rfl, ?_⟩) (by assumption) ?_
              rotate_left 1
              focus (intro wq hSw; (try dsimp only at hSw); obtain ⟨s0, s1, s2, s3, s4, s5, s6, s7, s8, s9, s10, s11, s12⟩ := hSw; go_simp; (try with_reducible rfl); done)
              try simp only [List.getElem_toArray, List.getElem_cons_zero, List.getElem_cons_succ, Act.put, List.setIfInBounds_toArray, List.set_cons_zero, List.set_cons_succ]
              refine wpAnyH_take (i := 9) (oi := _) (v := undef) rfl (by kernel_rfl) (by kernel_rfl) (by kernel_rfl) (fun _ _ _ h => h) (Or.inr ⟨by kernel_rfl, rfl⟩) (by assumption) ?_
              try simp only [List.getElem_toArray, List.getElem_cons_zero, List.getElem_cons_succ, Act.put, List.setIfInBounds_toArray, List.set_cons_zero, List.set_cons_succ]
              refine wpAnyH_take (i := 10) (oi := _) (v := undef) rfl (by kernel_rfl) (by kernel_rfl) (by kernel_rfl) (fun _ _ _ h => h) (Or.inr ⟨by kernel_rfl, rfl⟩) (by assumption) ?_
              try simp only [List.getElem_toArray, List.getElem_cons_zero, List.getElem_cons_succ, Act.put, List.setIfInBounds_toArray, List.set_cons_zero, List.set_cons_succ]
              refine wpAnyH_take (i := 11) (oi := _) (v := ?_) rfl (by kernel_rfl) (by kernel_rfl) (by kernel_rfl) (fun _ _ _ h => h) (Or.inl ⟨by kernel_rfl, ?_⟩) (by assumption) ?_
              rotate_left 1
              focus (intro wq hSw; (try dsimp only at hSw); obtain ⟨s0, s1, s2, s3, s4, s5, s6, s7, s8, s9, s10, s11, s12⟩ := hSw; go_simp; (try with_reducible rfl); done)
              try simp only [List.getElem_toArray, List.getElem_cons_zero, List.getElem_cons_succ, Act.put, List.setIfInBounds_toArray, List.set_cons_zero, List.set_cons_succ]
              refine wpAnyH_take (i := 12) (oi := _) (v := ?_) rfl (by kernel_rfl) (by kernel_rfl) (by kernel_rfl) (fun _ _ _ h => h) (Or.inl ⟨by kernel_rfl, ?_⟩) (by assumption) ?_
              rotate_left 1
              focus (intro wq hSw; (try dsimp only at hSw); obtain ⟨s0, s1, s2, s3, s4, s5, s6, s7, s8, s9, s10, s11, s12⟩ := hSw; go_simp; (try with_reducible rfl); done)
              try simp only [List.getElem_toArray, List.getElem_cons_zero, List.getElem_cons_succ, Act.put, List.setIfInBounds_toArray, List.set_cons_zero, List.set_cons_succ]
              refine wpAnyH_take (i := 13) (oi := _) (v := ?_) rfl (by kernel_rfl) (by kernel_rfl) (by kernel_rfl) (fun _ _ _ h => h) (Or.inl ⟨by kernel_rfl, ?_⟩) (by assumption) ?_
              rotate_left 1
              focus (intro wq hSw; (try dsimp only at hSw); obtain ⟨s0, s1, s2, s3, s4, s5, s6, s7, s8, s9, s10, s11, s12⟩ := hSw; go_simp; (try with_reducible rfl); done)
              try simp only [List.getElem_toArray, List.getElem_cons_zero, List.getElem_cons_succ, Act.put, List.setIfInBounds_toArray, List.set_cons_zero, List.set_cons_succ]
              refine wpAnyH_take (i := 14) (oi := _) (v := ?_) rfl (by kernel_rfl) (by kernel_rfl) (by kernel_rfl) (fun _ _ _ h => h) (Or.inl ⟨by kernel_rfl, ?_⟩) (by assumption) ?_
              rotate_left 1
              focus (intro wq hSw; (try dsimp only at hSw); obtain ⟨s0, s1, s2, s3, s4, s5, s6, s7, s8, s9, s10, s11, s12⟩ := hSw; go_simp; (try with_reducible rfl); done)
              try simp only [List.getElem_toArray, List.getElem_cons_zero, List.getElem_cons_succ, Act.put, List.setIfInBounds_toArray, List.set_cons_zero, List.set_cons_succ]
              refine wpAnyH_take (i := 16) (oi := _) (v := ?_) rfl (by kernel_rfl) (by kernel_rfl) (by kernel_rfl) (fun _ _ _ h => h) (Or.inl ⟨by kernel_rfl, ?_⟩) (by assumption) ?_
              rotate_left 1
              focus (intro wq hSw; (try dsimp only at hSw); obtain ⟨s0, s1, s2, s3, s4, s5, s6, s7, s8, s9, s10, s11, s12⟩ := hSw; go_simp; (try with_reducible rfl); done)
              try simp only [List.getElem_toArray, List.getElem_cons_zero, List.getElem_cons_succ, Act.put, List.setIfInBounds_toArray, List.set_cons_zero, List.set_cons_succ]
              refine wpAnyH_take (i := 17) (oi := _) (v := ?_) rfl (by kernel_rfl) (by kernel_rfl) (by kernel_rfl) (fun _ _ _ h => h) (Or.inl ⟨by kernel_rfl, ?_⟩) (by assumption) ?_
              rotate_left 1
              focus (intro wq hSw; (try dsimp only at hSw); obtain ⟨s0, s1, s2, s3, s4, s5, s6, s7, s8, s9, s10, s11, s12⟩ := hSw; go_simp; (try with_reducible rfl); done)
              try simp only [List.getElem_toArray, List.getElem_cons_zero, List.getElem_cons_succ, Act.put, List.setIfInBounds_toArray, List.set_cons_zero, List.set_cons_succ]
              refine wpAnyH_ready (rs := [15]) (by kernel_rfl) (by simp) ?_
              refine AllReadyH.cons (o := _) rfl (fun K hK => ?_) AllReadyH.nil
              rw [if_pos (by kernel_rfl)]
              go_simp
              (go_at_call 10; (with_reducible refine (CB.out _ hHeld.2.2.2.2.2.2.2.2.2.2.2.2.out.1).mono ?_); rintro e z80 ⟨rfl, q⟩; have q := q.out)
              first | refine hK.out _ _ ?_ (fun hHeld => ?_) | (go_wp2_with fail; refine hK.out _ _ ?_ (fun hHeld => ?_))
              · exact HS.out _ (hHeld.2.2.2.2.2.2.2.2.2.2.2.2.out.1.keep q) (hHeld.2.2.2.2.2.2.2.2.2.2.2.2.out.2.trans (q.mono hHeld.2.2.2.2.2.2.2.2.2.2.2.2.out.2.size))
              clear hK K
              try simp only [List.getElem_toArray, List.getElem_cons_zero, List.getElem_cons_succ, Act.put, List.setIfInBounds_toArray, List.set_cons_zero, List.set_cons_succ]
              refine wpAnyH_ready (rs := [18]) (by kernel_rfl) (by simp) ?_
              refine AllReadyH.cons (o := _) rfl (fun K hK => ?_) AllReadyH.nil
              rw [if_pos (by kernel_rfl)]
              go_simp
              (go_at_call 10; (with_reducible refine (CL.out _ hHeld.2.2.2.2.2.2.2.2.2.2.2.2.out.1).mono ?_); rintro e z83 ⟨rfl, q⟩; have q := q.out)
              first | refine hK.out _ _ ?_ (fun hHeld => ?_) | (go_wp2_with fail; refine hK.out _ _ ?_ (fun hHeld => ?_))
              · exact HS.out _ (hHeld.2.2.2.2.2.2.2.2.2.2.2.2.out.1.keep q) (hHeld.2.2.2.2.2.2.2.2.2.2.2.2.out.2.trans (q.mono hHeld.2.2.2.2.2.2.2.2.2.2.2.2.out.2.size))
              clear hK K
              try simp only [List.getElem_toArray, List.getElem_cons_zero, List.getElem_cons_succ, Act.put, List.setIfInBounds_toArray, List.set_cons_zero, List.set_cons_succ]
              refine wpAnyH_take (i := 19) (oi := _) (v := ?_) rfl (by kernel_rfl) (by kernel_rfl) (by kernel_rfl) (fun _ _ _ h => h) (Or.inl ⟨by kernel_rfl, ?_⟩) (by assumption) ?_
              rotate_left 1
              focus (intro wq hSw; (try dsimp only at hSw); obtain ⟨s0, s1, s2, s3, s4, s5, s6, s7, s8, s9, s10, s11, s12⟩ := hSw; go_simp; (try with_reducible rfl); done)
              try simp only [List.getElem_toArray, List.getElem_cons_zero, List.getElem_cons_succ, Act.put, List.setIfInBounds_toArray, List.set_cons_zero, List.set_cons_succ]
              refine wpAnyH_take (i := 20) (oi := _) (v := undef) rfl (by kernel_rfl) (by kernel_rfl) (by kernel_rfl) (fun _ _ _ h => h) (Or.inr ⟨by kernel_rfl, rfl⟩) (by assumption) ?_
              try simp only [List.getElem_toArray, List.getElem_cons_zero, List.getElem_cons_succ, Act.put, List.setIfInBounds_toArray, List.set_cons_zero, List.set_cons_succ]
              refine wpAnyH_take (i := 21) (oi := _) (v := undef) rfl (by kernel_rfl) (by kernel_rfl) (by kernel_rfl) (fun _ _ _ h => h) (Or.inr ⟨by kernel_rfl, rfl⟩) (by assumption) ?_
              try simp only [List.getElem_toArray, List.getElem_cons_zero, List.getElem_cons_succ, Act.put, List.setIfInBounds_toArray, List.set_cons_zero, List.set_cons_succ]
              refine wpAnyH_take (i := 22) (oi := _) (v := undef) rfl (by kernel_rfl) (by kernel_rfl) (by kernel_rfl) (fun _ _ _ h => h) (Or.inr ⟨by kernel_rfl, rfl⟩) (by assumption) ?_
              try simp only [List.getElem_toArray, List.getElem_cons_zero, List.getElem_cons_succ, Act.put, List.setIfInBounds_toArray, List.set_cons_zero, List.set_cons_succ]
              refine wpAnyH_take (i := 23) (oi := _) (v := ?_) rfl (by kernel_rfl) (by kernel_rfl) (by kernel_rfl) (fun _ _ _ h => h) (Or.inl ⟨by kernel_rfl, ?_⟩) (by assumption) ?_
              rotate_left 1
              focus (intro wq hSw; (try dsimp only at hSw); obtain ⟨s0, s1, s2, s3, s4, s5, s6, s7, s8, s9, s10, s11, s12⟩ := hSw; go_simp; (try with_reducible rfl); done)
              try simp only [List.getElem_toArray, List.getElem_cons_zero, List.getElem_cons_succ, Act.put, List.setIfInBounds_toArray, List.set_cons_zero, List.set_cons_succ]
              refine wpAnyH_take (i := 24) (oi := _) (v := ?_) rfl (by kernel_rfl) (by kernel_rfl) (by kernel_rfl) (fun _ _ _ h => h) (Or.inl ⟨by kernel_rfl, ?_⟩) (by assumption) ?_
              rotate_left 1
              focus (intro wq hSw; (try dsimp only at hSw); obtain ⟨s0, s1, s2, s3, s4, s5, s6, s7, s8, s9, s10, s11, s12⟩ := hSw; go_simp; (try with_reducible rfl); done)
              try simp only [List.getElem_toArray, List.getElem_cons_zero, List.getElem_cons_succ, Act.put, List.setIfInBounds_toArray, List.set_cons_zero, List.set_cons_succ]
              refine wpAnyH_take (i := 25) (oi := _) (v := ?_) rfl (by kernel_rfl) (by kernel_rfl) (by kernel_rfl) (fun _ _ _ h => h) (Or.inl ⟨by kernel_rfl, ?_⟩) (by assumption) ?_
              rotate_left 1
              focus (intro wq hSw; (try dsimp only at hSw); obtain ⟨s0, s1, s2, s3, s4, s5, s6, s7, s8, s9, s10, s11, s12⟩ := hSw; go_simp; (try with_reducible rfl); done)
              try simp only [List.getElem_toArray, List.getElem_cons_zero, List.getElem_cons_succ, Act.put, List.setIfInBounds_toArray, List.set_cons_zero, List.set_cons_succ]
              refine wpAnyH_done (by kernel_rfl) ?_ _
              have HL := Lib.hid hHeld.2.2.2.2.2.2.2.2.2.2.2.2.out
              clear hHeld
              go_wp2
              go_meet
              case rel => exact ⟨rfl, Lib.hid HL.out.2⟩
          case rest =>
            obtain ⟨rfl, HQ⟩ := hcut
            have HW := Lib.hid (HW.out.trans (HQ.out.mono HW.out.size))
            have HTR := Lib.hid (HTR.out.keep HQ.out)
            clear HQ HS H16 H17 H18
            have C1 : Hid (∀ W, TR ⟨P, N, co, cn, cc, oo, on, oc, cs, os⟩ x y g1 gt bn bt W → Calls Try.prog 10 #[.agg #[.int .i64 (d), .int .i64 (d), .bool true, .bool true], .pointer (some ⟨bn, 0, none⟩), .pointer (some ⟨bt, 0, none⟩)] W fun e w' => e = .returned (.bool true) ∧ Hid (Below W.heap.size W w')) := Lib.hid (fun W h => clo_any ⟨P, N, co, cn, cc, oo, on, oc, cs, os⟩ x y ia ib oa ob HRT.out HOK.out HCN.out Hx.out Hy.out HOWN.out g1 gt bn bt (d) (d) true true W h true (by rw [HD.out]; exact ⟨fun _ => ⟨HO2.out.1, HO2.out.2, fun _ => Int.le_refl _, fun _ => Int.le_refl _⟩, fun _ => rfl⟩))
            have C2 : Hid (∀ W, TR ⟨P, N, co, cn, cc, oo, on, oc, cs, os⟩ x y g1 gt bn bt W → Calls Try.prog 10 #[.agg #[.int .i64 (d + 1), .int .i64 (0), .bool true, .bool false], .pointer (some ⟨bn, 0, none⟩), .pointer (some ⟨bt, 0, none⟩)] W fun e w' => e = .returned (.bool false) ∧ Hid (Below W.heap.size W w')) := Lib.hid (fun W h => clo_any ⟨P, N, co, cn, cc, oo, on, oc, cs, os⟩ x y ia ib oa ob HRT.out HOK.out HCN.out Hx.out Hy.out HOWN.out g1 gt bn bt (d + 1) (0) true false W h false (by rw [HD.out]; exact ⟨fun z => (by cases z), fun z => absurd (z.2.2.1 rfl) (by omega)⟩))
            have C3 : Hid (∀ W, TR ⟨P, N, co, cn, cc, oo, on, oc, cs, os⟩ x y g1 gt bn bt W → Calls Try.prog 10 #[.agg #[.int .i64 (0), .int .i64 (d - 1), .bool false, .bool true], .pointer (some ⟨bn, 0, none⟩), .pointer (some ⟨bt, 0, none⟩)] W fun e w' => e = .returned (.bool false) ∧ Hid (Below W.heap.size W w')) := Lib.hid (fun W h => clo_any ⟨P, N, co, cn, cc, oo, on, oc, cs, os⟩ x y ia ib oa ob HRT.out HOK.out HCN.out Hx.out Hy.out HOWN.out g1 gt bn bt (0) (d - 1) false true W h false (by rw [HD.out]; exact ⟨fun z => (by cases z), fun z => absurd (z.2.2.2 rfl) (by omega)⟩))
            clear HOKB HRT HOK HCN Hx Hy HOWN HLN HO2
            obtain ⟨n0, hn0⟩ : ∃ n, wc.heap.size = n := ⟨_, rfl⟩
            go_upto_region 19 with fail
            obtain ⟨w7, hw7⟩ : ∃ W, ((wc.alloc (.cells #[.int .i64 d, .int .i64 d, .bool true, .bool true] 34)).alloc (.cells #[.int .i64 (d + 1), .int .i64 0, .bool true, .bool false] 34)).alloc (.cells #[.int .i64 0, .int .i64 (d - 1), .bool false, .bool true] 34) = W := ⟨_, rfl⟩
            have al : ∀ (W : World) (o : Obj) (j : Nat), j < W.heap.size → (W.alloc o).heap[j]? = W.heap[j]? := fun W o j hj => Below.heap_alloc W o j hj
            have K7 : Below wc.heap.size wc w7 := by rw [← hw7]; exact (((Below.refl _ _).alloc (Nat.le_refl _) _).alloc (by simp) _).alloc (by simp; omega) _
            have H1 : Hid (w7.heap[n0]? = some (.cells #[.int .i64 d, .int .i64 d, .bool true, .bool true] 34 (0, 0))) := Lib.hid (by rw [← hw7, al _ _ _ (by simp; omega), al _ _ _ (by simp; omega)]; exact heap_at hn0)
            have H2 : Hid (w7.heap[n0 + 1]? = some (.cells #[.int .i64 (d + 1), .int .i64 0, .bool true, .bool false] 34 (0, 0))) := Lib.hid (by rw [← hw7, al _ _ _ (by simp; omega)]; exact heap_at (by simp; omega))
            have H3 : Hid (w7.heap[n0 + 1 + 1]? = some (.cells #[.int .i64 0, .int .i64 (d - 1), .bool false, .bool true] 34 (0, 0))) := Lib.hid (by rw [← hw7]; exact heap_at (by simp; omega))
            have HW := Lib.hid (HW.out.trans (K7.mono HW.out.size))
            have HTR := Lib.hid (HTR.out.keep K7)
            rw [hw7]
            clear hw7 al K7 hn0
            have e0 : w7.cell? ⟨n0, 0, none⟩ = some (.int .i64 d) := cell_block H1.out 0
            have e1 : w7.cell? ⟨n0, 1, none⟩ = some (.int .i64 d) := cell_block H1.out 1
            have e2 : w7.cell? ⟨n0, 2, none⟩ = some (.bool true) := cell_block H1.out 2
            have e3 : w7.cell? ⟨n0, 3, none⟩ = some (.bool true) := cell_block H1.out 3
            go_wp2_with fail
            (with_reducible refine (C1.out _ HTR.out).mono ?_)
            rintro e w8 ⟨rfl, q⟩
            have HW := Lib.hid (HW.out.trans (q.out.mono HW.out.size))
            have HTR := Lib.hid (HTR.out.keep q.out)
            have H2 := Lib.hid (heap_keep H2.out q.out)
            have H3 := Lib.hid (heap_keep H3.out q.out)
            clear q e0 e1 e2 e3 C1 H1
            have e0 : w8.cell? ⟨n0 + 1, 0, none⟩ = some (.int .i64 (d + 1)) := cell_block H2.out 0
            have e1 : w8.cell? ⟨n0 + 1, 1, none⟩ = some (.int .i64 0) := cell_block H2.out 1
            have e2 : w8.cell? ⟨n0 + 1, 2, none⟩ = some (.bool true) := cell_block H2.out 2
            have e3 : w8.cell? ⟨n0 + 1, 3, none⟩ = some (.bool false) := cell_block H2.out 3
            go_wp2_with fail
            (with_reducible refine (C2.out _ HTR.out).mono ?_)
            rintro e w9 ⟨rfl, q⟩
            have HW := Lib.hid (HW.out.trans (q.out.mono HW.out.size))
            have HTR := Lib.hid (HTR.out.keep q.out)
            have H3 := Lib.hid (heap_keep H3.out q.out)
            clear q e0 e1 e2 e3 C2 H2
            have e0 : w9.cell? ⟨n0 + 1 + 1, 0, none⟩ = some (.int .i64 0) := cell_block H3.out 0
            have e1 : w9.cell? ⟨n0 + 1 + 1, 1, none⟩ = some (.int .i64 (d - 1)) := cell_block H3.out 1
            have e2 : w9.cell? ⟨n0 + 1 + 1, 2, none⟩ = some (.bool false) := cell_block H3.out 2
            have e3 : w9.cell? ⟨n0 + 1 + 1, 3, none⟩ = some (.bool true) := cell_block H3.out 3
            go_wp2_with fail
            (with_reducible refine (C3.out _ HTR.out).mono ?_)
            rintro e w10 ⟨rfl, q⟩
            have HW := Lib.hid (HW.out.trans (q.out.mono HW.out.size))
            have HTR := Lib.hid (HTR.out.keep q.out)
            clear q e0 e1 e2 e3 C3 H3
            go_wp2_with fail
            (with_reducible refine (HAW.out _).mono ?_)
            rintro e w9 ⟨rfl, q⟩
            have HW := Lib.hid (HW.out.trans (q.mono HW.out.size))
            clear q
            go_wp2
            go_returns
            exact ⟨rfl, HW.out⟩
end Go.Proofs.Ytaobhhgalkkmaaa
