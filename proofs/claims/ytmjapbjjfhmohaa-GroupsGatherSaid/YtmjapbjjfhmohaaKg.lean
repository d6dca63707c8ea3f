/- G14u in one. -/
import Derived.Test.YtmjapbjjfhmohaaKf
namespace Go.Proofs.Ytmjapbjjfhmohaa
set_option linter.unusedVariables false
set_option linter.unusedSimpArgs false
open Go.ChangeShapes Go.WideShapes Go.ChangeAt Go.RowKit
set_option maxRecDepth 8000 in
set_option maxHeartbeats 4000000 in
theorem next_upR (F : Fv) (w0 w : World) (B b : Nat) (a ps : Int) (v : Value) (L : List Nat) (hk : Wk F w0 w B b a 1 ps v L) (hv : Ready F v L) (hr : F.Rep) (hc : F.cn ≤ 1000000) (ha1 : -2305843009213693952 ≤ a) (ha2 : a ≤ 2305843009213693952) (hp0 : 0 ≤ ps) (hp : ps ≤ 2 * F.cn) :
    Calls Try.prog 85 #[.pointer (some ⟨b, 0, none⟩)] w fun e w' => WkOut F w0 w B b a 1 e w' := by
  have HRP := Lib.hid (fun W h => repeats_any F W h true ⟨fun _ => hr, fun _ => rfl⟩)
  obtain ⟨P, N, co, cn, cc, oo, on, oc, cs, os⟩ := F
  have HQ : Hid (Fv.Rep ⟨P, N, co, cn, cc, oo, on, oc, cs, os⟩) := Lib.hid hr
  obtain ⟨r1, r2⟩ := hr
  have r1 : 0 < N := r1
  obtain rfl : N = (cn : Int) := r2
  have HRP : Hid (∀ W, Fv.At ⟨P, (cn : Int), co, cn, cc, oo, on, oc, cs, os⟩ W → Calls Try.prog 56 #[.agg #[.int .i64 P, .int .i64 (cn : Int), .slice co cn cc, .slice oo on oc]] W fun e w' => e = .returned (.bool true) ∧ Below W.heap.size W w') := HRP
  have HL : Hid (cs.length = cn) := Lib.hid hk.f.core.len
  have hc : cn ≤ 1000000 := hc
  have hp : ps ≤ 2 * (cn : Int) := hp
  have HK := Lib.hid hk
  have HV := Lib.hid hv
  have hmc : cn ≤ 9223372036854775807 := by omega
  have n0 : (cn : Int) ≠ 0 := by omega
  have n2 : ¬ (a = -9223372036854775808 ∧ (cn : Int) = -1) := by omega
  have HFL := Lib.hid (fun W => floor_ok a cn W (by omega) (by omega) (by omega) (by omega) n0 n2)
  obtain ⟨s, hs⟩ : ∃ s : Nat, a.fmod (cn : Int) = s := by
    have := fmod_nat a r1
    exact ⟨(a.fmod (cn : Int)).toNat, by omega⟩
  have s1 : s < cn := by have := fmod_nat a r1; omega
  have HS := Lib.hid hs
  obtain ⟨tn, htn⟩ : ∃ q, a.fdiv (cn : Int) = q := ⟨_, rfl⟩
  rw [hs, htn] at HFL
  clear hk hv hs htn
  have c0 : w.cell? ⟨b, 0, none⟩ = some (.int .i64 P) := HK.out.cell 0
  have c1 : w.cell? ⟨b, 1, none⟩ = some (.int .i64 (cn : Int)) := HK.out.cell 1
  have c2 : w.cell? ⟨b, 2, none⟩ = some (.slice co cn cc) := HK.out.cell 2
  have c3 : w.cell? ⟨b, 3, none⟩ = some (.slice oo on oc) := HK.out.cell 3
  have c4 : w.cell? ⟨b, 4, none⟩ = some (.int .i64 a) := HK.out.cell 4
  have c5 : w.cell? ⟨b, 5, none⟩ = some (.int .i64 1) := HK.out.cell 5
  have c6 : w.cell? ⟨b, 6, none⟩ = some (.int .i64 ps) := HK.out.cell 6
  go_enter Try.func85, Try.ntmps85
  go_wp2_with fail
  (with_reducible refine (HRP.out _ HK.out.at0).mono ?_)
  rintro e w1 ⟨rfl, q⟩
  have HG : Hid (w.grownBy w1 (some b)) := Lib.hid (grown_keep (World.grownBy.refl w _) q)
  have HK := Lib.hid (HK.out.keep q)
  clear q c0 c1 c2 c3 c4 c5 c6
  have c0 : w1.cell? ⟨b, 0, none⟩ = some (.int .i64 P) := HK.out.cell 0
  have c1 : w1.cell? ⟨b, 1, none⟩ = some (.int .i64 (cn : Int)) := HK.out.cell 1
  have c2 : w1.cell? ⟨b, 2, none⟩ = some (.slice co cn cc) := HK.out.cell 2
  have c4 : w1.cell? ⟨b, 4, none⟩ = some (.int .i64 a) := HK.out.cell 4
  have c5 : w1.cell? ⟨b, 5, none⟩ = some (.int .i64 1) := HK.out.cell 5
  have c6 : w1.cell? ⟨b, 6, none⟩ = some (.int .i64 ps) := HK.out.cell 6
  go_wp2
  go_quiet ((go_at_call 24; with_reducible exact Calls.quiet_of (HFL.out _)))
  generalize hw2 : w1.drewN _ = w2
  have HB2 : Hid (Below w1.heap.size w1 w2) := Lib.hid (by rw [← hw2]; exact below_drewN (Below.refl _ _) _)
  clear hw2
  have HG := Lib.hid (grown_keep HG.out HB2.out)
  have HK := Lib.hid (HK.out.keep HB2.out)
  clear HB2 c0 c1 c2 c4 c5 c6
  have c0 : w2.cell? ⟨b, 0, none⟩ = some (.int .i64 P) := HK.out.cell 0
  have c1 : w2.cell? ⟨b, 1, none⟩ = some (.int .i64 (cn : Int)) := HK.out.cell 1
  have c2 : w2.cell? ⟨b, 2, none⟩ = some (.slice co cn cc) := HK.out.cell 2
  have c4 : w2.cell? ⟨b, 4, none⟩ = some (.int .i64 a) := HK.out.cell 4
  have c5 : w2.cell? ⟨b, 5, none⟩ = some (.int .i64 1) := HK.out.cell 5
  have c6 : w2.cell? ⟨b, 6, none⟩ = some (.int .i64 ps) := HK.out.cell 6
  go_wp2
  by_cases hpq : (cn : Int) < ps
  · go_quiet (fail)
    generalize hw3 : w2.drewN _ = w3
    have HB3 : Hid (Below w2.heap.size w2 w3) := Lib.hid (by rw [← hw3]; exact below_drewN (Below.refl _ _) _)
    clear hw3
    have HG := Lib.hid (grown_keep HG.out HB3.out)
    have HK := Lib.hid (HK.out.keep HB3.out)
    clear HB3 c0 c1 c2 c4 c5 c6
    have HLS := Lib.hid (listed_up ⟨P, (cn : Int), co, cn, cc, oo, on, oc, cs, os⟩ w0 w3 B b a ps v L s HK.out HV.out HQ.out hc ha1 ha2 HS.out hp0 hp)
    go_wp2_with fail
    (with_reducible refine HLS.out.mono ?_)
    intro e w4 h4
    have HW4 := Lib.hid (h4.after HG.out)
    obtain ⟨a2, ps2, v2, L2, h1, h2, h3, h5⟩ := h4
    rcases h3 with ⟨j, rfl, _⟩ | ⟨rfl, _⟩ <;>
    · clear h1 h2 h5
      go_wp2
      go_returns
      exact HW4.out
  · have hpq2 : ps ≤ (cn : Int) := by omega
    go_quiet (fail)
    generalize hw3 : w2.drewN _ = w3
    have HB3 : Hid (Below w2.heap.size w2 w3) := Lib.hid (by rw [← hw3]; exact below_drewN (Below.refl _ _) _)
    clear hw3
    have HG := Lib.hid (grown_keep HG.out HB3.out)
    have HK := Lib.hid (HK.out.keep HB3.out)
    clear HB3 c0 c1 c2 c4 c5 c6
    have c1 : w3.cell? ⟨b, 1, none⟩ = some (.int .i64 (cn : Int)) := HK.out.cell 1
    go_wp2
    have HK0 : Hid (Wk ⟨P, (cn : Int), co, cn, cc, oo, on, oc, cs, os⟩ w0 w3 B b a 1 (ps + ((0 : Nat) : Int)) v L ∧ w.grownBy w3 (some b)) := Lib.hid ⟨by rw [show ps + ((0 : Nat) : Int) = ps by omega]; exact HK.out, HG.out⟩
    have HS0 : Hid ((a + 1 * ((0 : Nat) : Int)).fmod (cn : Int) = (s : Int)) := Lib.hid (by rw [show a + 1 * ((0 : Nat) : Int) = a by omega]; exact HS.out)
    clear HK HG HS c1
    go_loopw [48, 5] (fun ii ss wr => ∃ n x : Nat, n ≤ cn ∧ ii = .int .i64 n ∧ ss = .int .i64 x ∧ x < cn ∧ Hid ((a + 1 * (n : Int)).fmod (cn : Int) = (x : Int)) ∧ Hid (∀ k : Int, 1 ≤ k → k ≤ (n : Int) → cset cs cn (a + 1 * k) = []) ∧ Hid (Wk ⟨P, (cn : Int), co, cn, cc, oo, on, oc, cs, os⟩ w0 wr B b a 1 (ps + (n : Int)) v L ∧ w.grownBy wr (some b))) (fun ii _ _ => cn - (intOf ii).toNat)
    case atStart => exact ⟨0, s, Nat.zero_le _, rfl, rfl, s1, HS0, Lib.hid (fun k k1 k2 => by omega), HK0⟩
    case round =>
      obtain ⟨n, x, hn, rfl, rfl, hx, HSX, HEM, HW⟩ := hrel
      have HK := Lib.hid HW.out.1
      have HG := Lib.hid HW.out.2
      clear HW HK0 HS0
      by_cases nlt : n < cn
      · obtain ⟨q, hq⟩ : ∃ q, ps + (n : Int) = q := ⟨_, rfl⟩
        have q0 : 0 ≤ q := by omega
        have q1 : q + 1 ≤ 2 * (cn : Int) := by omega
        rw [hq] at HK
        have HQN := Lib.hid hq
        clear hq
        have c6 : wr.cell? ⟨b, 6, none⟩ = some (.int .i64 q) := HK.out.cell 6
        have f6 := HK.out.free 6
        have i0 : (0 : Int) ≤ (n : Int) := by omega
        have i1 : (n : Int) < (cn : Int) := by omega
        go_upto_region 10 with fail
        have HK2 := Lib.hid (HK.out.put 6 (.int .i64 (q + 1)) (at2 := a) (st2 := 1) (ps2 := q + 1) (v2 := v) (L2 := L) rfl HK.out.own)
        have HG2 := Lib.hid (grown_put0 HG.out 6 (.int .i64 (q + 1)))
        generalize hw4 : wr.setCell ⟨b, 6, none⟩ (.int .i64 (q + 1)) = w4
        rw [hw4] at HK2 HG2
        clear hw4 HK HG c6 f6
        have c0 : w4.cell? ⟨b, 0, none⟩ = some (.int .i64 P) := HK2.out.cell 0
        have c1 : w4.cell? ⟨b, 1, none⟩ = some (.int .i64 (cn : Int)) := HK2.out.cell 1
        have c2 : w4.cell? ⟨b, 2, none⟩ = some (.slice co cn cc) := HK2.out.cell 2
        have c4 : w4.cell? ⟨b, 4, none⟩ = some (.int .i64 a) := HK2.out.cell 4
        have c5 : w4.cell? ⟨b, 5, none⟩ = some (.int .i64 1) := HK2.out.cell 5
        have f4 := HK2.out.free 4
        by_cases hxc : x + 1 = cn
        · have HY : Hid ((a + 1 * ((n : Int) + 1)).fmod (cn : Int) = ((0 : Nat) : Int)) := Lib.hid (by
            rw [show a + 1 * ((n : Int) + 1) = (a + 1 * (n : Int)) + 1 by omega, fmod_up r1, HSX.out, if_pos (by omega)]; rfl)
          have t9 : (x : Int) + 1 = (cn : Int) := by omega
          have t1 : ((cn : Int) == (cn : Int)) = true := by simp
          have y0 : (0 : Int) < (cn : Int) := r1
          clear HSX
          have hyl : 0 < cs.length := by rw [HL.out]; omega
          obtain ⟨g, p, e, hcc⟩ := (show CoAt w4 co cn cc cs from HK2.out.at0.core).here (by omega)
          cases e
          obtain ⟨o, m, d, d1, d2⟩ := hcc (0) hyl
          have HM := Lib.hid d2.len
          have HCS : Hid (cset cs cn (a + 1 * ((n : Int) + 1)) = cs[0]'hyl) := Lib.hid (by
            unfold cset
            rw [HY.out, Int.toNat_natCast, List.getD_eq_getElem?_getD, List.getElem?_eq_getElem hyl]; rfl)
          clear hcc d2
          try simp only [Nat.add_zero] at d1
          by_cases hm : m = 0
          · have HEM2 : Hid (∀ k : Int, 1 ≤ k → k ≤ ((n + 1 : Nat) : Int) → cset cs cn (a + 1 * k) = []) := Lib.hid (fun k k1 k2 => by
              by_cases z : k ≤ (n : Int)
              · exact HEM.out k k1 z
              · rw [show k = (n : Int) + 1 by omega, HCS.out]
                exact List.eq_nil_of_length_eq_zero (by rw [HM.out]; exact hm))
            have HY2 : Hid ((a + 1 * ((n + 1 : Nat) : Int)).fmod (cn : Int) = ((0 : Nat) : Int)) := Lib.hid (by rw [show ((n + 1 : Nat) : Int) = (n : Int) + 1 by omega]; exact HY.out)
            have HK3 : Hid (Wk _ w0 w4 B b a 1 (ps + ((n + 1 : Nat) : Int)) v L ∧ w.grownBy w4 (some b)) := Lib.hid ⟨by rw [show ps + ((n + 1 : Nat) : Int) = q + 1 by have := HQN.out; omega]; exact HK2.out, HG2.out⟩
            have m0 : ¬ (0 : Int) < (m : Int) := by omega
            clear HCS HEM HM HY HK2 HG2
            clear hyl
            go_wp2
            go_roundw
            case rel => exact ⟨n + 1, 0, by omega, by go_num, rfl, by omega, HY2, HEM2, HK3⟩
            case measure => simp [intOf]; omega
          · have HX : Hid (Nxt cs cn a 1 (a + ((n : Int) + 1))) := Lib.hid ⟨⟨(n : Int) + 1, by omega, by omega, by omega, fun k k1 k2 => HEM.out k k1 (by omega)⟩, by
              rw [show a + ((n : Int) + 1) = a + 1 * ((n : Int) + 1) by omega, HCS.out]
              intro z
              have := HM.out
              rw [z] at this; exact hm this.symm⟩
            have m0 : (0 : Int) < (m : Int) := by omega
            clear HCS HEM HM
            clear hyl
            go_wp2
            go_region
            go_wp2
            go_returns
            exact ⟨a + ((n : Int) + 1), q + 1, v, L, (HK2.out.put 4 (.int .i64 (a + ((n : Int) + 1))) rfl HK2.out.own).keep (Below.refl _ _).drew, HV.out, .inl ⟨_, rfl, rfl, HX.out, HQ.out⟩, by omega, q1, grown_put HG2.out 4 _⟩
        · obtain ⟨y, hy⟩ : ∃ y, x + 1 = y := ⟨_, rfl⟩
          have HY : Hid ((a + 1 * ((n : Int) + 1)).fmod (cn : Int) = ((y : Nat) : Int)) := Lib.hid (by
            rw [show a + 1 * ((n : Int) + 1) = (a + 1 * (n : Int)) + 1 by omega, fmod_up r1, HSX.out, if_neg (by omega)]; omega)
          have t9 : (x : Int) + 1 = (y : Int) := by omega
          have t1 : ((y : Int) == (cn : Int)) = false := by simp; omega
          have y0 : (0 : Int) ≤ (y : Int) := by omega
          have y1 : (y : Int) < (cn : Int) := by omega
          have y2 : y < cn := by omega
          clear HSX hy
          have hyl : y < cs.length := by rw [HL.out]; omega
          obtain ⟨g, p, e, hcc⟩ := (show CoAt w4 co cn cc cs from HK2.out.at0.core).here (by omega)
          cases e
          obtain ⟨o, m, d, d1, d2⟩ := hcc (y) hyl
          have HM := Lib.hid d2.len
          have HCS : Hid (cset cs cn (a + 1 * ((n : Int) + 1)) = cs[y]'hyl) := Lib.hid (by
            unfold cset
            rw [HY.out, Int.toNat_natCast, List.getD_eq_getElem?_getD, List.getElem?_eq_getElem hyl]; rfl)
          clear hcc d2
          try simp only [Nat.add_zero] at d1
          by_cases hm : m = 0
          · have HEM2 : Hid (∀ k : Int, 1 ≤ k → k ≤ ((n + 1 : Nat) : Int) → cset cs cn (a + 1 * k) = []) := Lib.hid (fun k k1 k2 => by
              by_cases z : k ≤ (n : Int)
              · exact HEM.out k k1 z
              · rw [show k = (n : Int) + 1 by omega, HCS.out]
                exact List.eq_nil_of_length_eq_zero (by rw [HM.out]; exact hm))
            have HY2 : Hid ((a + 1 * ((n + 1 : Nat) : Int)).fmod (cn : Int) = ((y : Nat) : Int)) := Lib.hid (by rw [show ((n + 1 : Nat) : Int) = (n : Int) + 1 by omega]; exact HY.out)
            have HK3 : Hid (Wk _ w0 w4 B b a 1 (ps + ((n + 1 : Nat) : Int)) v L ∧ w.grownBy w4 (some b)) := Lib.hid ⟨by rw [show ps + ((n + 1 : Nat) : Int) = q + 1 by have := HQN.out; omega]; exact HK2.out, HG2.out⟩
            have m0 : ¬ (0 : Int) < (m : Int) := by omega
            clear HCS HEM HM HY HK2 HG2
            clear hyl
            go_wp2
            go_roundw
            case rel => exact ⟨n + 1, y, by omega, by go_num, rfl, by omega, HY2, HEM2, HK3⟩
            case measure => simp [intOf]; omega
          · have HX : Hid (Nxt cs cn a 1 (a + ((n : Int) + 1))) := Lib.hid ⟨⟨(n : Int) + 1, by omega, by omega, by omega, fun k k1 k2 => HEM.out k k1 (by omega)⟩, by
              rw [show a + ((n : Int) + 1) = a + 1 * ((n : Int) + 1) by omega, HCS.out]
              intro z
              have := HM.out
              rw [z] at this; exact hm this.symm⟩
            have m0 : (0 : Int) < (m : Int) := by omega
            clear HCS HEM HM
            clear hyl
            go_wp2
            go_region
            go_wp2
            go_returns
            exact ⟨a + ((n : Int) + 1), q + 1, v, L, (HK2.out.put 4 (.int .i64 (a + ((n : Int) + 1))) rfl HK2.out.own).keep (Below.refl _ _).drew, HV.out, .inl ⟨_, rfl, rfl, HX.out, HQ.out⟩, by omega, q1, grown_put HG2.out 4 _⟩
      · obtain rfl : cn = n := by omega
        have HE : Hid (∀ i, cg cs P cn i = []) := Lib.hid (fun i => (cg_nil r1 (by rw [HL.out])).2 (all_up r1 HEM.out i))
        go_wp2
        go_returns
        exact ⟨a, _, v, L, HK.out, HV.out, .inr ⟨rfl, rfl, HE.out⟩, by omega, (show ps + (cn : Int) ≤ 2 * (cn : Int) by omega), HG.out⟩
end Go.Proofs.Ytmjapbjjfhmohaa
