/- FormOwn: the walk. -/
import Derived.Test.YtijpejjkbioekaaC7
import Derived.Test.YtijpejjkbioekaaC6
import Derived.Test.YtijpejjkbioekaaL3
namespace Go.Proofs.Ytijpejjkbioekaa
set_option linter.unusedVariables false
set_option linter.unusedSimpArgs false
open Go.ChangeShapes Go.WideShapes Go.ChangeAt Go.RowKit
set_option maxRecDepth 8000 in
set_option maxHeartbeats 8000000 in
theorem own_all (F : Fv) (i : Int) (w : World) (hF : F.At w) (hi1 : -9223372036854775808 ≤ i) (hi2 : i ≤ 9223372036854775807) :
    Calls Try.prog 6 #[F.v, .int .i64 i] w fun e w' => e = .returned (.bool true) ∧ Below w.heap.size w w' := by
  have HAW := Lib.hid (fun W => awake_any W)
  obtain ⟨r, hr⟩ : ∃ r : Bool, r = true ↔ F.Small ∧ F.Rt := by classical exact ⟨decide _, decide_eq_true_iff⟩
  have HRI := Lib.hid (fun W h => right_any2 F W h r hr)
  have HOK : Hid (r = true → F.Ok) := Lib.hid (fun q => (hr.1 q).2.ok (hr.1 q).1)
  have HCN : Hid (r = true → F.cn ≤ 12 ∧ F.on ≤ 8) := Lib.hid (fun q => ⟨(hr.1 q).1.1, (hr.1 q).1.2.1⟩)
  clear hr
  obtain ⟨P, N, co, cn, cc, oo, on, oc, cs, os⟩ := F
  have LC : Hid (cs.length = cn) := Lib.hid hF.core.len
  have LO : Hid (os.length = on) := Lib.hid hF.odd.len
  have hmc : cn ≤ 9223372036854775807 := Nat.le_trans hF.core.le hF.core.top
  have hmo : on ≤ 9223372036854775807 := Nat.le_trans hF.odd.le hF.odd.top
  obtain ⟨b, hb⟩ : ∃ b, w.heap.size = b := ⟨_, rfl⟩
  obtain ⟨wb, hwb⟩ : ∃ wb, w.alloc (.cells #[.int .i64 P, .int .i64 N, .slice co cn cc, .slice oo on oc] 25) = wb := ⟨_, rfl⟩
  have HBB : Hid (Fbox ⟨P, N, co, cn, cc, oo, on, oc, cs, os⟩ w wb b) := Lib.hid (by rw [← hwb, ← hb]; exact fbox_new hF)
  clear hF
  show Calls Try.prog 6 #[.agg #[.int .i64 P, .int .i64 N, .slice co cn cc, .slice oo on oc], .int .i64 i] w _
  go_enter Try.func6, Try.ntmps6
  go_upto_region 1 with fail
  clear hwb hb
  have e0 : wb.cell? ⟨b, 0, none⟩ = some (.int .i64 P) := HBB.out.c0
  have e1 : wb.cell? ⟨b, 1, none⟩ = some (.int .i64 N) := HBB.out.c1
  have e2 : wb.cell? ⟨b, 2, none⟩ = some (.slice co cn cc) := HBB.out.c2
  have e3 : wb.cell? ⟨b, 3, none⟩ = some (.slice oo on oc) := HBB.out.c3
  have HRI : Hid (∀ W, Fv.At ⟨P, N, co, cn, cc, oo, on, oc, cs, os⟩ W → Calls Try.prog 7 #[.agg #[.int .i64 P, .int .i64 N, .slice co cn cc, .slice oo on oc]] W fun e w' => e = .returned (.bool r) ∧ Below W.heap.size W w') := HRI
  go_wp2_with fail
  (with_reducible refine (HRI.out _ HBB.out.at_).mono ?_)
  rintro e w2 ⟨rfl, q⟩
  have HBB := Lib.hid (HBB.out.keep q)
  try clear e0 e1 e2 e3
  clear q HRI
  cases r
  · skip
    go_wp2_with fail
    (with_reducible refine (HAW.out _).mono ?_)
    rintro e w9 ⟨rfl, q⟩
    have HBB := Lib.hid (HBB.out.keep q)
    clear q
    go_wp2
    go_returns
    exact ⟨rfl, HBB.out.bw⟩
  · have HOK : Hid (Fv.Ok ⟨P, N, co, cn, cc, oo, on, oc, cs, os⟩) := Lib.hid (HOK.out (by first | rfl | trivial))
    have hcn : cn ≤ 12 := (HCN.out (by first | rfl | trivial)).1
    have hon : on ≤ 8 := (HCN.out (by first | rfl | trivial)).2
    have HAN : Hid (∀ W, Fv.At ⟨P, N, co, cn, cc, oo, on, oc, cs, os⟩ W → Calls Try.prog 17 #[.agg #[.int .i64 P, .int .i64 N, .slice co cn cc, .slice oo on oc]] W fun e w' => ∃ vc vo, e = .returned (.agg #[.int .i64 P, .int .i64 N, vc, vo]) ∧ Hid (CoOwn w' W.heap.size vc cn cs ∧ OdOwn w' W.heap.size vo on os) ∧ Hid (Below W.heap.size W w')) := Lib.hid (fun W h => anewForm_any ⟨P, N, co, cn, cc, oo, on, oc, cs, os⟩ W h HOK.out.cn HOK.out.on HOK.out.lenC HOK.out.lenO)
    have HCP : Hid (∀ W, Fv.At ⟨P, N, co, cn, cc, oo, on, oc, cs, os⟩ W → Calls Try.prog 18 #[.agg #[.int .i64 P, .int .i64 N, .slice co cn cc, .slice oo on oc]] W fun e w' => ∃ vc vo, e = .returned (.agg #[.int .i64 P, .int .i64 N, vc, vo]) ∧ Hid (CoOwn w' W.heap.size vc cn cs ∧ OdOwn w' W.heap.size vo on os) ∧ Hid (Below W.heap.size W w')) := Lib.hid (fun W h => copy_any ⟨P, N, co, cn, cc, oo, on, oc, cs, os⟩ W h HOK.out.cn HOK.out.on HOK.out.lenC HOK.out.lenO)
    have HGT : Hid (∀ W, Fv.At ⟨P, N, co, cn, cc, oo, on, oc, cs, os⟩ W → Calls Try.prog 9 #[.agg #[.int .i64 P, .int .i64 N, .slice co cn cc, .slice oo on oc], .int .i64 i] W fun e w' => ∃ (v : Value) (k : Int), e = .returned (.tuple #[v, .int .i64 k]) ∧ Below W.heap.size W w' ∧ IntRow w' W.heap.size v) := Lib.hid (fun W h => by
      refine (get_any ⟨P, N, co, cn, cc, oo, on, oc, cs, os⟩ i W h HOK.out).mono ?_
      rintro e w' ⟨v, k, rfl, q, hv⟩
      refine ⟨v, k, rfl, q, ?_⟩
      rcases hv.out with ⟨_, _, h3⟩ | ⟨_, _, rfl⟩
      · exact intRow_of h3 rfl
      · exact ⟨none, 0, 0, rfl, by decide, fun h => absurd h (Nat.lt_irrefl _)⟩)
    have e0 : w2.cell? ⟨b, 0, none⟩ = some (.int .i64 P) := HBB.out.c0
    have e1 : w2.cell? ⟨b, 1, none⟩ = some (.int .i64 N) := HBB.out.c1
    have e2 : w2.cell? ⟨b, 2, none⟩ = some (.slice co cn cc) := HBB.out.c2
    have e3 : w2.cell? ⟨b, 3, none⟩ = some (.slice oo on oc) := HBB.out.c3
    go_wp2_with fail
    (with_reducible refine (HAN.out _ HBB.out.at_).mono ?_)
    rintro e w3 ⟨vk, vq, rfl, hown, q⟩
    have HBB := Lib.hid (HBB.out.keep q.out)
    try clear e0 e1 e2 e3
    obtain ⟨ko, kc, rfl, hko⟩ := hown.out.1.vs
    obtain ⟨qo, qc, rfl, hqo⟩ := hown.out.2.vs
    have HGA : Hid (Fv.At ⟨P, N, ko, cn, kc, qo, on, qc, cs, os⟩ w3) := Lib.hid ⟨HBB.out.at_.p1, HBB.out.at_.p2, HBB.out.at_.n1, HBB.out.at_.n2, hko, hqo, HBB.out.at_.short⟩
    clear q hown hko hqo HAN HCN
    dsimp only
    obtain ⟨bk, hbk⟩ : ∃ q, w3.heap.size = q := ⟨_, rfl⟩
    go_upto_region 4 with fail
    have KA := Lib.hid ((Below.refl _ w3).alloc (Nat.le_refl _) (.cells #[.int .i64 P, .int .i64 N, .slice ko cn kc, .slice qo on qc] 25))
    have HKB : Hid ((w3.alloc (.cells #[.int .i64 P, .int .i64 N, .slice ko cn kc, .slice qo on qc] 25)).heap[bk]? = some (.cells #[.int .i64 P, .int .i64 N, .slice ko cn kc, .slice qo on qc] 25 (0, 0))) := Lib.hid (heap_at hbk)
    generalize hw4 : w3.alloc (.cells #[.int .i64 P, .int .i64 N, .slice ko cn kc, .slice qo on qc] 25) = w4
    rw [hw4] at KA HKB
    have HBB := Lib.hid (HBB.out.keep KA.out)
    have HGA := Lib.hid (HGA.out.keep KA.out)
    have HBB4 := HBB
    clear hw4 hbk KA
    have e0 : w4.cell? ⟨b, 0, none⟩ = some (.int .i64 P) := HBB.out.c0
    have e1 : w4.cell? ⟨b, 1, none⟩ = some (.int .i64 N) := HBB.out.c1
    have e2 : w4.cell? ⟨b, 2, none⟩ = some (.slice co cn cc) := HBB.out.c2
    have e3 : w4.cell? ⟨b, 3, none⟩ = some (.slice oo on oc) := HBB.out.c3
    go_wp2_with fail
    (with_reducible refine (HGT.out _ HBB.out.at_).mono ?_)
    rintro e w5 ⟨v, kz, rfl, q, hir⟩
    have HBB := Lib.hid (HBB.out.keep q)
    try clear e0 e1 e2 e3
    obtain ⟨ao, n, c, rfl, hn⟩ := hir.slice
    have HBK := HBB4
    have HW0 : Hid (IntRow w5 w4.heap.size (.slice ao n c) ∧ Below w4.heap.size w4 w5) := Lib.hid ⟨hir, q⟩
    clear q hir HBB HGT
    go_wp2
    go_loopw [28] (fun ii wr => ∃ j : Nat, j ≤ n ∧ ii = .int .i64 j ∧ Hid (IntRow wr w4.heap.size (.slice ao n c) ∧ Below w4.heap.size w4 wr)) (fun ii _ => n - (intOf ii).toNat)
    case atStart => exact ⟨0, Nat.zero_le _, rfl, HW0⟩
    case round =>
      obtain ⟨j, hj, rfl, HW⟩ := hrel
      clear HW0
      by_cases jlt : j < n
      · obtain ⟨g, cur, rfl, hcur, hgB, ⟨z, z1⟩, _, fz, _⟩ := HW.out.1.spot jlt
        have HHB := Lib.hid hgB
        have i0 : (0 : Int) ≤ (j : Int) := by omega
        have i1 : (j : Int) < (n : Int) := by omega
        clear hcur hgB
        obtain ⟨y, hy⟩ : ∃ y, wrap64 (z - 1) = y := ⟨_, rfl⟩
        go_upto_region 9 with fail
        have HN : Hid (IntRow (wr.setCell ⟨g, j * 2, none⟩ (.int .i64 y)) w4.heap.size (.slice (some ⟨g, 0, none⟩) n c) ∧ Below w4.heap.size w4 (wr.setCell ⟨g, j * 2, none⟩ (.int .i64 y))) := Lib.hid ⟨HW.out.1.set g _ _, HW.out.2.setCell (p := ⟨g, j * 2, none⟩) HHB.out _⟩
        generalize hwx : wr.setCell ⟨g, j * 2, none⟩ (.int .i64 y) = wx
        rw [hwx] at HN
        clear hwx HW fz z1 hy
        go_wp2
        go_roundw
        case rel => exact ⟨j + 1, by omega, by go_num, HN⟩
        case measure => simp [intOf]; omega
      · obtain rfl : n = j := by omega
        have HB5 := Lib.hid HW.out.2
        have HBB := Lib.hid (HBK.out.keep HB5.out)
        clear HW
        clear HBB4
        have e0 : wr.cell? ⟨b, 0, none⟩ = some (.int .i64 P) := HBB.out.c0
        have e1 : wr.cell? ⟨b, 1, none⟩ = some (.int .i64 N) := HBB.out.c1
        have e2 : wr.cell? ⟨b, 2, none⟩ = some (.slice co cn cc) := HBB.out.c2
        have e3 : wr.cell? ⟨b, 3, none⟩ = some (.slice oo on oc) := HBB.out.c3
        go_wp2_with fail
        (with_reducible refine (HCP.out _ HBB.out.at_).mono ?_)
        rintro e w6 ⟨vc, vo, rfl, hown, q⟩
        have HBB := Lib.hid (HBB.out.keep q.out)
        try clear e0 e1 e2 e3
        obtain ⟨xo, xc, rfl, _⟩ := hown.out.1.vs
        obtain ⟨yo, yc, rfl, _⟩ := hown.out.2.vs
        obtain ⟨uc, huc⟩ := coInt_of (hown.out.1.mono HB5.out.size)
        obtain ⟨uo, huo⟩ := odInt_of (hown.out.2.mono HB5.out.size)
        have HB6 := Lib.hid (HB5.out.trans (q.out.mono HB5.out.size))
        obtain ⟨bc, hbc⟩ : ∃ q, w6.heap.size = q := ⟨_, rfl⟩
        have KA := (Below.refl _ w6).alloc (Nat.le_refl _) (.cells #[.int .i64 P, .int .i64 N, .slice xo cn xc, .slice yo on yc] 25)
        have HC : Hid (Cw w4 (w6.alloc (.cells #[.int .i64 P, .int .i64 N, .slice xo cn xc, .slice yo on yc] 25)) bc #[.int .i64 P, .int .i64 N, .slice xo cn xc, .slice yo on yc] (.slice xo cn xc) (.slice yo on yc) cn on uc uo) := Lib.hid (by
          have o : ∀ e, Off w6 w4.heap.size e none := fun e q z => by cases z
          have hg := grown_of_below KA
          refine ⟨HB6.out.trans (KA.mono HB6.out.size), by rw [← hbc]; exact HB6.out.size, heap_at hbc, ⟨?_, fun i hi => (huc.ints i hi).grown hg (o _)⟩, ⟨?_, fun i hi => (huo.ints i hi).grown hg (o _)⟩⟩
          · obtain ⟨vs, a, b⟩ := huc.row; exact ⟨vs, own_off a hg (o _), b⟩
          · obtain ⟨vs, a, b⟩ := huo.row; exact ⟨vs, own_off a hg (o _), b⟩)
        clear KA huc huo hown q HB5 HCP HB6
        dsimp only
        go_upto_region 11 with fail
        generalize hw7 : w6.alloc (.cells #[.int .i64 P, .int .i64 N, .slice xo cn xc, .slice yo on yc] 25) = w7
        rw [hw7] at HC
        clear hw7 hbc HBB
        have c2 : w7.cell? ⟨bc, 2, none⟩ = some (.slice xo cn xc) := HC.out.boxc 2
        go_wp2
        clear c2
        go_loopw [45] (fun ii wr => ∃ k : Nat, k ≤ cn ∧ ii = .int .i64 k ∧ Hid (Cw w4 wr bc #[.int .i64 P, .int .i64 N, .slice xo cn xc, .slice yo on yc] (.slice xo cn xc) (.slice yo on yc) cn on uc uo)) (fun ii _ => cn - (intOf ii).toNat)
        case atStart => exact ⟨0, Nat.zero_le _, rfl, HC⟩
        case round =>
          obtain ⟨k, hk, rfl, HW⟩ := hrel
          clear HC
          have HC := HW
          clear HW
          by_cases klt : k < cn
          · have k0 : (0 : Int) ≤ (k : Int) := by omega
            have k1 : (k : Int) < (cn : Int) := by omega
            obtain ⟨gc, rfl⟩ : ∃ gc, xo = some ⟨gc, 0, none⟩ := by
              obtain ⟨vs, a, _⟩ := HC.out.co.row
              rcases a.2 with ⟨e, h0⟩ | ⟨g, cap, cur, e, _⟩
              · omega
              · cases e; exact ⟨g, rfl⟩
            obtain ⟨a, m, d, hu, hm⟩ := (HC.out.co.ints k klt).slice
            have HROW : Hid (∀ W, Cw w4 W bc #[.int .i64 P, .int .i64 N, .slice (some ⟨gc, 0, none⟩) cn xc, .slice yo on yc] (.slice (some ⟨gc, 0, none⟩) cn xc) (.slice yo on yc) cn on uc uo → W.cell? ⟨gc, k, none⟩ = some (.slice a m d) ∧ IntRow W w4.heap.size (.slice a m d)) := Lib.hid (fun W h => by
              obtain ⟨vs, x, y⟩ := h.co.row
              refine ⟨by rw [x.cellAt k (by omega), y k klt, hu], ?_⟩
              rw [← hu]; exact h.co.ints k klt)
            have c2 : wr.cell? ⟨bc, 2, none⟩ = some (.slice (some ⟨gc, 0, none⟩) cn xc) := HC.out.boxc 2
            have c4 := (HROW.out wr HC.out).1
            clear hu
            go_wp2
            clear c2 c4
            go_loopw [54] (fun jj wr => ∃ j : Nat, j ≤ m ∧ jj = .int .i64 j ∧ Hid (Cw w4 wr bc #[.int .i64 P, .int .i64 N, .slice (some ⟨gc, 0, none⟩) cn xc, .slice yo on yc] (.slice (some ⟨gc, 0, none⟩) cn xc) (.slice yo on yc) cn on uc uo)) (fun jj _ => m - (intOf jj).toNat)
            case atStart => exact ⟨0, Nat.zero_le _, rfl, HC⟩
            case round =>
              obtain ⟨j, hj, rfl, HW⟩ := hrel
              clear HC
              have HC := HW
              clear HW
              by_cases jlt : j < m
              · obtain ⟨g, cur, rfl, hcur, hgB, _, ⟨z, z1⟩, _, fz⟩ := (HROW.out wr HC.out).2.spot jlt
                have HHB := Lib.hid hgB
                have HCU := Lib.hid hcur
                have c2 : wr.cell? ⟨bc, 2, none⟩ = some (.slice (some ⟨gc, 0, none⟩) cn xc) := HC.out.boxc 2
                have c4 := (HROW.out wr HC.out).1
                have j0 : (0 : Int) ≤ (j : Int) := by omega
                have j1 : (j : Int) < (m : Int) := by omega
                clear hcur hgB
                obtain ⟨y, hy⟩ : ∃ y, wrap64 (z + 1) = y := ⟨_, rfl⟩
                go_upto_region 18 with fail
                have HN := Lib.hid (HC.out.inner HCU.out HHB.out (j * 2 + 1) y)
                generalize hwx : wr.setCell ⟨g, j * 2 + 1, none⟩ (.int .i64 y) = wx
                rw [hwx] at HN
                clear hwx fz z1 hy HC c2 c4 HCU
                go_wp2
                go_roundw
                case rel => exact ⟨j + 1, by omega, by go_num, HN⟩
                case measure => simp [intOf]; omega
              · obtain rfl : m = j := by omega
                clear HROW
                go_wp2
                go_roundw
                case rel => exact ⟨k + 1, by omega, by go_num, HC⟩
                case measure => simp [intOf]; omega
          · obtain rfl : cn = k := by omega
            have c3 : wr.cell? ⟨bc, 3, none⟩ = some (.slice yo on yc) := HC.out.boxc 3
            go_wp2
            clear c3
            go_loopw [74] (fun ii wr => ∃ k : Nat, k ≤ on ∧ ii = .int .i64 k ∧ Hid (Cw w4 wr bc #[.int .i64 P, .int .i64 N, .slice xo cn xc, .slice yo on yc] (.slice xo cn xc) (.slice yo on yc) cn on uc uo)) (fun ii _ => on - (intOf ii).toNat)
            case atStart => exact ⟨0, Nat.zero_le _, rfl, HC⟩
            case round =>
              obtain ⟨k, hk, rfl, HW⟩ := hrel
              clear HC
              have HC := HW
              clear HW
              by_cases klt : k < on
              · have k0 : (0 : Int) ≤ (k : Int) := by omega
                have k1 : (k : Int) < (on : Int) := by omega
                obtain ⟨gc, rfl⟩ : ∃ gc, yo = some ⟨gc, 0, none⟩ := by
                  obtain ⟨vs, a, _⟩ := HC.out.od.row
                  rcases a.2 with ⟨e, h0⟩ | ⟨g, cap, cur, e, _⟩
                  · omega
                  · cases e; exact ⟨g, rfl⟩
                obtain ⟨a, m, d, hu, hm⟩ := (HC.out.od.ints k klt).slice
                have HROW : Hid (∀ W, Cw w4 W bc #[.int .i64 P, .int .i64 N, .slice xo cn xc, .slice (some ⟨gc, 0, none⟩) on yc] (.slice xo cn xc) (.slice (some ⟨gc, 0, none⟩) on yc) cn on uc uo → W.cell? ⟨gc, k * 2 + 1, none⟩ = some (.slice a m d) ∧ IntRow W w4.heap.size (.slice a m d)) := Lib.hid (fun W h => by
                  obtain ⟨vs, x, y⟩ := h.od.row
                  refine ⟨by rw [x.cellAt _ (by omega), (y k klt).2, hu], ?_⟩
                  rw [← hu]; exact h.od.ints k klt)
                obtain ⟨z, z1, fz⟩ : ∃ z : Int, wr.cell? ⟨gc, k * 2, none⟩ = some (.int .i64 z) ∧ wr.frozen? ⟨gc, k * 2, none⟩ = false := by
                  obtain ⟨vs, x, y⟩ := HC.out.od.row
                  obtain ⟨⟨z, hz⟩, _⟩ := y k klt
                  exact ⟨z, by rw [x.cellAt _ (by omega)]; exact hz, x.frozenAt _⟩
                have c3 : wr.cell? ⟨bc, 3, none⟩ = some (.slice (some ⟨gc, 0, none⟩) on yc) := HC.out.boxc 3
                clear hu
                obtain ⟨y, hy⟩ : ∃ y, wrap64 (z + 1) = y := ⟨_, rfl⟩
                go_upto_region 24 with fail
                have HC := Lib.hid (HC.out.index klt y)
                generalize hwx : wr.setCell ⟨gc, k * 2, none⟩ (.int .i64 y) = wx
                rw [hwx] at HC
                clear hwx fz z1 hy c3
                have c3 : wx.cell? ⟨bc, 3, none⟩ = some (.slice (some ⟨gc, 0, none⟩) on yc) := HC.out.boxc 3
                have c4 := (HROW.out wx HC.out).1
                go_wp2
                clear c3 c4
                go_loopw [93] (fun jj wr => ∃ j : Nat, j ≤ m ∧ jj = .int .i64 j ∧ Hid (Cw w4 wr bc #[.int .i64 P, .int .i64 N, .slice xo cn xc, .slice (some ⟨gc, 0, none⟩) on yc] (.slice xo cn xc) (.slice (some ⟨gc, 0, none⟩) on yc) cn on uc uo)) (fun jj _ => m - (intOf jj).toNat)
                case atStart => exact ⟨0, Nat.zero_le _, rfl, HC⟩
                case round =>
                  obtain ⟨j, hj, rfl, HW⟩ := hrel
                  clear HC
                  have HC := HW
                  clear HW
                  by_cases jlt : j < m
                  · obtain ⟨g, cur, rfl, hcur, hgB, _, ⟨z, z1⟩, _, fz⟩ := (HROW.out wr HC.out).2.spot jlt
                    have HHB := Lib.hid hgB
                    have HCU := Lib.hid hcur
                    have c3 : wr.cell? ⟨bc, 3, none⟩ = some (.slice (some ⟨gc, 0, none⟩) on yc) := HC.out.boxc 3
                    have c4 := (HROW.out wr HC.out).1
                    have j0 : (0 : Int) ≤ (j : Int) := by omega
                    have j1 : (j : Int) < (m : Int) := by omega
                    clear hcur hgB
                    obtain ⟨y, hy⟩ : ∃ y, wrap64 (z + 1) = y := ⟨_, rfl⟩
                    go_upto_region 28 with fail
                    have HN := Lib.hid (HC.out.inner HCU.out HHB.out (j * 2 + 1) y)
                    generalize hwx : wr.setCell ⟨g, j * 2 + 1, none⟩ (.int .i64 y) = wx
                    rw [hwx] at HN
                    clear hwx fz z1 hy HC c3 c4 HCU
                    go_wp2
                    go_roundw
                    case rel => exact ⟨j + 1, by omega, by go_num, HN⟩
                    case measure => simp [intOf]; omega
                  · obtain rfl : m = j := by omega
                    clear HROW
                    go_wp2
                    go_roundw
                    case rel => exact ⟨k + 1, by omega, by go_num, HC⟩
                    case measure => simp [intOf]; omega
              · obtain rfl : on = k := by omega
                have HBB := Lib.hid (HBK.out.keep HC.out.bw)
                have HGA2 := Lib.hid (HGA.out.keep HC.out.bw)
                have HKB2 : Hid (wr.heap[bk]? = some (.cells #[.int .i64 P, .int .i64 N, .slice ko cn kc, .slice qo on qc] 25 (0, 0))) := Lib.hid ((HC.out.bw.block bk (Array.getElem?_eq_some_iff.1 HKB.out).1).trans HKB.out)
                have k0 : wr.cell? ⟨bk, 0, none⟩ = some (.int .i64 P) := cell_block HKB2.out 0
                have k1 : wr.cell? ⟨bk, 1, none⟩ = some (.int .i64 N) := cell_block HKB2.out 1
                have k2 : wr.cell? ⟨bk, 2, none⟩ = some (.slice ko cn kc) := cell_block HKB2.out 2
                have k3 : wr.cell? ⟨bk, 3, none⟩ = some (.slice qo on qc) := cell_block HKB2.out 3
                have HAL : Hid (Calls Try.prog 19 #[.agg #[.int .i64 P, .int .i64 N, .slice co cn cc, .slice oo on oc], .agg #[.int .i64 P, .int .i64 N, .slice ko cn kc, .slice qo on qc]] wr fun e w' => e = .returned (.bool true) ∧ Below wr.heap.size wr w') := Lib.hid (alikeForms_any ⟨P, N, co, cn, cc, oo, on, oc, cs, os⟩ ⟨P, N, ko, cn, kc, qo, on, qc, cs, os⟩ wr HBB.out.at_ HGA2.out true ⟨fun _ => ⟨rfl, rfl, rfl, rfl⟩, fun _ => rfl⟩)
                clear HC HBK HGA HKB HGA2 HKB2
                have e0 : wr.cell? ⟨b, 0, none⟩ = some (.int .i64 P) := HBB.out.c0
                have e1 : wr.cell? ⟨b, 1, none⟩ = some (.int .i64 N) := HBB.out.c1
                have e2 : wr.cell? ⟨b, 2, none⟩ = some (.slice co cn cc) := HBB.out.c2
                have e3 : wr.cell? ⟨b, 3, none⟩ = some (.slice oo on oc) := HBB.out.c3
                go_wp2_with fail
                (with_reducible refine (HAL.out).mono ?_)
                rintro e w8 ⟨rfl, q⟩
                have HBB := Lib.hid (HBB.out.keep q)
                try clear e0 e1 e2 e3
                clear q k0 k1 k2 k3 HAL
                go_wp2_with fail
                (with_reducible refine (HAW.out _).mono ?_)
                rintro e w9 ⟨rfl, q⟩
                have HBB := Lib.hid (HBB.out.keep q)
                clear q
                go_wp2
                go_returns
                exact ⟨rfl, HBB.out.bw⟩
end Go.Proofs.Ytijpejjkbioekaa
