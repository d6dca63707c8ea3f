/- G14d, G15, G16, G17c in one. -/
import Derived.Test.YtmjapbjjfhmohaaKf
import Derived.Test.YtmjapbjjfhmohaaKg
namespace Go.Proofs.Ytmjapbjjfhmohaa
set_option linter.unusedVariables false
set_option linter.unusedSimpArgs false
open Go.ChangeShapes Go.WideShapes Go.ChangeAt Go.RowKit
set_option maxRecDepth 8000 in
set_option maxHeartbeats 4000000 in
theorem next_dnR (F : Fv) (w0 w : World) (B b : Nat) (a ps : Int) (v : Value) (L : List Nat) (hk : Wk F w0 w B b a (-1 : Int) ps v L) (hv : Ready F v L) (hr : F.Rep) (hc : F.cn ≤ 1000000) (ha1 : -2305843009213693952 ≤ a) (ha2 : a ≤ 2305843009213693952) (hp0 : 0 ≤ ps) (hp : ps ≤ 2 * F.cn) :
    Calls Try.prog 85 #[.pointer (some ⟨b, 0, none⟩)] w fun e w' => WkOut F w0 w B b a (-1 : Int) e w' := by
  have HRP := Lib.hid (fun W h => repeats_any F W h true ⟨fun _ => hr, fun _ => rfl⟩)
  obtain ⟨P, N, co, cn, cc, oo, on, oc, cs, os⟩ := F
  have HQ : Hid (Fv.Rep ⟨P, N, co, cn, cc, oo, on, oc, cs, os⟩) := Lib.hid hr
  obtain ⟨r1, r2⟩ := hr
  have r1 : 0 < N := r1
  obtain rfl : N = (cn : Int) := r2
  have HRP : Hid (∀ W, Fv.At ⟨P, (cn : Int), co, cn, cc, oo, on, oc, cs, os⟩ W → Calls Try.prog 56 #[.agg #[.int .i64 P, .int .i64 (cn : Int), .slice co cn cc, .slice oo on oc]] W fun e w' => e = .returned (.bool true) ∧ Below W.heap.size W w') := HRP
  have HL : Hid (cs.length = cn) := Lib.hid hk.f.core.len
  have hc : cn ≤ 1000000 := hc
  have hp : ps ≤ 2 * (cn : Int) := hp
  have HK := Lib.hid hk
  have HV := Lib.hid hv
  have hmc : cn ≤ 9223372036854775807 := by omega
  have n0 : (cn : Int) ≠ 0 := by omega
  have n2 : ¬ (a = -9223372036854775808 ∧ (cn : Int) = -1) := by omega
  have HFL := Lib.hid (fun W => floor_ok a cn W (by omega) (by omega) (by omega) (by omega) n0 n2)
  obtain ⟨s, hs⟩ : ∃ s : Nat, a.fmod (cn : Int) = s := by
    have := fmod_nat a r1
    exact ⟨(a.fmod (cn : Int)).toNat, by omega⟩
  have s1 : s < cn := by have := fmod_nat a r1; omega
  have HS := Lib.hid hs
  obtain ⟨tn, htn⟩ : ∃ q, a.fdiv (cn : Int) = q := ⟨_, rfl⟩
  rw [hs, htn] at HFL
  clear hk hv hs htn
  have c0 : w.cell? ⟨b, 0, none⟩ = some (.int .i64 P) := HK.out.cell 0
  have c1 : w.cell? ⟨b, 1, none⟩ = some (.int .i64 (cn : Int)) := HK.out.cell 1
  have c2 : w.cell? ⟨b, 2, none⟩ = some (.slice co cn cc) := HK.out.cell 2
  have c3 : w.cell? ⟨b, 3, none⟩ = some (.slice oo on oc) := HK.out.cell 3
  have c4 : w.cell? ⟨b, 4, none⟩ = some (.int .i64 a) := HK.out.cell 4
  have c5 : w.cell? ⟨b, 5, none⟩ = some (.int .i64 (-1)) := HK.out.cell 5
  have c6 : w.cell? ⟨b, 6, none⟩ = some (.int .i64 ps) := HK.out.cell 6
  go_enter Try.func85, Try.ntmps85
  go_wp2_with fail
  (with_reducible refine (HRP.out _ HK.out.at0).mono ?_)
  rintro e w1 ⟨rfl, q⟩
  have HG : Hid (w.grownBy w1 (some b)) := Lib.hid (grown_keep (World.grownBy.refl w _) q)
  have HK := Lib.hid (HK.out.keep q)
  clear q c0 c1 c2 c3 c4 c5 c6
  have c0 : w1.cell? ⟨b, 0, none⟩ = some (.int .i64 P) := HK.out.cell 0
  have c1 : w1.cell? ⟨b, 1, none⟩ = some (.int .i64 (cn : Int)) := HK.out.cell 1
  have c2 : w1.cell? ⟨b, 2, none⟩ = some (.slice co cn cc) := HK.out.cell 2
  have c4 : w1.cell? ⟨b, 4, none⟩ = some (.int .i64 a) := HK.out.cell 4
  have c5 : w1.cell? ⟨b, 5, none⟩ = some (.int .i64 (-1)) := HK.out.cell 5
  have c6 : w1.cell? ⟨b, 6, none⟩ = some (.int .i64 ps) := HK.out.cell 6
  go_wp2
  go_quiet ((go_at_call 24; with_reducible exact Calls.quiet_of (HFL.out _)))
  generalize hw2 : w1.drewN _ = w2
  have HB2 : Hid (Below w1.heap.size w1 w2) := Lib.hid (by rw [← hw2]; exact below_drewN (Below.refl _ _) _)
  clear hw2
  have HG := Lib.hid (grown_keep HG.out HB2.out)
  have HK := Lib.hid (HK.out.keep HB2.out)
  clear HB2 c0 c1 c2 c4 c5 c6
  have c0 : w2.cell? ⟨b, 0, none⟩ = some (.int .i64 P) := HK.out.cell 0
  have c1 : w2.cell? ⟨b, 1, none⟩ = some (.int .i64 (cn : Int)) := HK.out.cell 1
  have c2 : w2.cell? ⟨b, 2, none⟩ = some (.slice co cn cc) := HK.out.cell 2
  have c4 : w2.cell? ⟨b, 4, none⟩ = some (.int .i64 a) := HK.out.cell 4
  have c5 : w2.cell? ⟨b, 5, none⟩ = some (.int .i64 (-1)) := HK.out.cell 5
  have c6 : w2.cell? ⟨b, 6, none⟩ = some (.int .i64 ps) := HK.out.cell 6
  go_wp2
  by_cases hpq : (cn : Int) < ps
  · go_quiet (fail)
    generalize hw3 : w2.drewN _ = w3
    have HB3 : Hid (Below w2.heap.size w2 w3) := Lib.hid (by rw [← hw3]; exact below_drewN (Below.refl _ _) _)
    clear hw3
    have HG := Lib.hid (grown_keep HG.out HB3.out)
    have HK := Lib.hid (HK.out.keep HB3.out)
    clear HB3 c0 c1 c2 c4 c5 c6
    have HLS := Lib.hid (listed_dn ⟨P, (cn : Int), co, cn, cc, oo, on, oc, cs, os⟩ w0 w3 B b a ps v L s HK.out HV.out HQ.out hc ha1 ha2 HS.out hp0 hp)
    go_wp2_with fail
    (with_reducible refine HLS.out.mono ?_)
    intro e w4 h4
    have HW4 := Lib.hid (h4.after HG.out)
    obtain ⟨a2, ps2, v2, L2, h1, h2, h3, h5⟩ := h4
    rcases h3 with ⟨j, rfl, _⟩ | ⟨rfl, _⟩ <;>
    · clear h1 h2 h5
      go_wp2
      go_returns
      exact HW4.out
  · have hpq2 : ps ≤ (cn : Int) := by omega
    go_quiet (fail)
    generalize hw3 : w2.drewN _ = w3
    have HB3 : Hid (Below w2.heap.size w2 w3) := Lib.hid (by rw [← hw3]; exact below_drewN (Below.refl _ _) _)
    clear hw3
    have HG := Lib.hid (grown_keep HG.out HB3.out)
    have HK := Lib.hid (HK.out.keep HB3.out)
    clear HB3 c0 c1 c2 c4 c5 c6
    have c1 : w3.cell? ⟨b, 1, none⟩ = some (.int .i64 (cn : Int)) := HK.out.cell 1
    go_wp2
    have HK0 : Hid (Wk ⟨P, (cn : Int), co, cn, cc, oo, on, oc, cs, os⟩ w0 w3 B b a (-1 : Int) (ps + ((0 : Nat) : Int)) v L ∧ w.grownBy w3 (some b)) := Lib.hid ⟨by rw [show ps + ((0 : Nat) : Int) = ps by omega]; exact HK.out, HG.out⟩
    have HS0 : Hid ((a + (-1 : Int) * ((0 : Nat) : Int)).fmod (cn : Int) = (s : Int)) := Lib.hid (by rw [show a + (-1 : Int) * ((0 : Nat) : Int) = a by omega]; exact HS.out)
    clear HK HG HS c1
    go_loopw [48, 5] (fun ii ss wr => ∃ n x : Nat, n ≤ cn ∧ ii = .int .i64 n ∧ ss = .int .i64 x ∧ x < cn ∧ Hid ((a + (-1 : Int) * (n : Int)).fmod (cn : Int) = (x : Int)) ∧ Hid (∀ k : Int, 1 ≤ k → k ≤ (n : Int) → cset cs cn (a + (-1 : Int) * k) = []) ∧ Hid (Wk ⟨P, (cn : Int), co, cn, cc, oo, on, oc, cs, os⟩ w0 wr B b a (-1 : Int) (ps + (n : Int)) v L ∧ w.grownBy wr (some b))) (fun ii _ _ => cn - (intOf ii).toNat)
    case atStart => exact ⟨0, s, Nat.zero_le _, rfl, rfl, s1, HS0, Lib.hid (fun k k1 k2 => by omega), HK0⟩
    case round =>
      obtain ⟨n, x, hn, rfl, rfl, hx, HSX, HEM, HW⟩ := hrel
      have HK := Lib.hid HW.out.1
      have HG := Lib.hid HW.out.2
      clear HW HK0 HS0
      by_cases nlt : n < cn
      · obtain ⟨q, hq⟩ : ∃ q, ps + (n : Int) = q := ⟨_, rfl⟩
        have q0 : 0 ≤ q := by omega
        have q1 : q + 1 ≤ 2 * (cn : Int) := by omega
        rw [hq] at HK
        have HQN := Lib.hid hq
        clear hq
        have c6 : wr.cell? ⟨b, 6, none⟩ = some (.int .i64 q) := HK.out.cell 6
        have f6 := HK.out.free 6
        have i0 : (0 : Int) ≤ (n : Int) := by omega
        have i1 : (n : Int) < (cn : Int) := by omega
        go_upto_region 10 with fail
        have HK2 := Lib.hid (HK.out.put 6 (.int .i64 (q + 1)) (at2 := a) (st2 := (-1 : Int)) (ps2 := q + 1) (v2 := v) (L2 := L) rfl HK.out.own)
        have HG2 := Lib.hid (grown_put0 HG.out 6 (.int .i64 (q + 1)))
        generalize hw4 : wr.setCell ⟨b, 6, none⟩ (.int .i64 (q + 1)) = w4
        rw [hw4] at HK2 HG2
        clear hw4 HK HG c6 f6
        have c0 : w4.cell? ⟨b, 0, none⟩ = some (.int .i64 P) := HK2.out.cell 0
        have c1 : w4.cell? ⟨b, 1, none⟩ = some (.int .i64 (cn : Int)) := HK2.out.cell 1
        have c2 : w4.cell? ⟨b, 2, none⟩ = some (.slice co cn cc) := HK2.out.cell 2
        have c4 : w4.cell? ⟨b, 4, none⟩ = some (.int .i64 a) := HK2.out.cell 4
        have c5 : w4.cell? ⟨b, 5, none⟩ = some (.int .i64 (-1)) := HK2.out.cell 5
        have f4 := HK2.out.free 4
        by_cases hxc : x = 0
        · subst hxc
          obtain ⟨y, hy⟩ : ∃ y, cn - 1 = y := ⟨_, rfl⟩
          have HY : Hid ((a + (-1 : Int) * ((n : Int) + 1)).fmod (cn : Int) = ((y : Nat) : Int)) := Lib.hid (by
            rw [show a + (-1 : Int) * ((n : Int) + 1) = (a + (-1 : Int) * (n : Int)) - 1 by omega, fmod_dn r1, HSX.out, if_pos (by omega)]; omega)
          have t9 : (cn : Int) - 1 = (y : Int) := by omega
          have t1 : ((y : Int) == (cn : Int)) = false := by simp; omega
          have y0 : (0 : Int) ≤ (y : Int) := by omega
          have y1 : (y : Int) < (cn : Int) := by omega
          have y2 : y < cn := by omega
          clear HSX hy
          have hyl : y < cs.length := by rw [HL.out]; omega
          obtain ⟨g, p, e, hcc⟩ := (show CoAt w4 co cn cc cs from HK2.out.at0.core).here (by omega)
          cases e
          obtain ⟨o, m, d, d1, d2⟩ := hcc (y) hyl
          have HM := Lib.hid d2.len
          have HCS : Hid (cset cs cn (a + (-1 : Int) * ((n : Int) + 1)) = cs[y]'hyl) := Lib.hid (by
            unfold cset
            rw [HY.out, Int.toNat_natCast, List.getD_eq_getElem?_getD, List.getElem?_eq_getElem hyl]; rfl)
          clear hcc d2
          try simp only [Nat.add_zero] at d1
          by_cases hm : m = 0
          · have HEM2 : Hid (∀ k : Int, 1 ≤ k → k ≤ ((n + 1 : Nat) : Int) → cset cs cn (a + (-1 : Int) * k) = []) := Lib.hid (fun k k1 k2 => by
              by_cases z : k ≤ (n : Int)
              · exact HEM.out k k1 z
              · rw [show k = (n : Int) + 1 by omega, HCS.out]
                exact List.eq_nil_of_length_eq_zero (by rw [HM.out]; exact hm))
            have HY2 : Hid ((a + (-1 : Int) * ((n + 1 : Nat) : Int)).fmod (cn : Int) = ((y : Nat) : Int)) := Lib.hid (by rw [show ((n + 1 : Nat) : Int) = (n : Int) + 1 by omega]; exact HY.out)
            have HK3 : Hid (Wk _ w0 w4 B b a (-1 : Int) (ps + ((n + 1 : Nat) : Int)) v L ∧ w.grownBy w4 (some b)) := Lib.hid ⟨by rw [show ps + ((n + 1 : Nat) : Int) = q + 1 by have := HQN.out; omega]; exact HK2.out, HG2.out⟩
            have m0 : ¬ (0 : Int) < (m : Int) := by omega
            clear HCS HEM HM HY HK2 HG2
            clear hyl
            go_wp2
            go_roundw
            case rel => exact ⟨n + 1, y, by omega, by go_num, rfl, by omega, HY2, HEM2, HK3⟩
            case measure => simp [intOf]; omega
          · have HX : Hid (Nxt cs cn a (-1 : Int) (a + -((n : Int) + 1))) := Lib.hid ⟨⟨(n : Int) + 1, by omega, by omega, by omega, fun k k1 k2 => HEM.out k k1 (by omega)⟩, by
              rw [show a + -((n : Int) + 1) = a + (-1 : Int) * ((n : Int) + 1) by omega, HCS.out]
              intro z
              have := HM.out
              rw [z] at this; exact hm this.symm⟩
            have m0 : (0 : Int) < (m : Int) := by omega
            clear HCS HEM HM
            clear hyl
            go_wp2
            go_region
            go_wp2
            go_returns
            exact ⟨a + -((n : Int) + 1), q + 1, v, L, (HK2.out.put 4 (.int .i64 (a + -((n : Int) + 1))) rfl HK2.out.own).keep (Below.refl _ _).drew, HV.out, .inl ⟨_, rfl, rfl, HX.out, HQ.out⟩, by omega, q1, grown_put HG2.out 4 _⟩
        · obtain ⟨y, hy⟩ : ∃ y, x - 1 = y := ⟨_, rfl⟩
          have HY : Hid ((a + (-1 : Int) * ((n : Int) + 1)).fmod (cn : Int) = ((y : Nat) : Int)) := Lib.hid (by
            rw [show a + (-1 : Int) * ((n : Int) + 1) = (a + (-1 : Int) * (n : Int)) - 1 by omega, fmod_dn r1, HSX.out, if_neg (by omega)]; omega)
          have t9 : (x : Int) + -1 = (y : Int) := by omega
          have t1 : ((y : Int) == (cn : Int)) = false := by simp; omega
          have y0 : (0 : Int) ≤ (y : Int) := by omega
          have y1 : (y : Int) < (cn : Int) := by omega
          have y2 : y < cn := by omega
          clear HSX hy
          have hyl : y < cs.length := by rw [HL.out]; omega
          obtain ⟨g, p, e, hcc⟩ := (show CoAt w4 co cn cc cs from HK2.out.at0.core).here (by omega)
          cases e
          obtain ⟨o, m, d, d1, d2⟩ := hcc (y) hyl
          have HM := Lib.hid d2.len
          have HCS : Hid (cset cs cn (a + (-1 : Int) * ((n : Int) + 1)) = cs[y]'hyl) := Lib.hid (by
            unfold cset
            rw [HY.out, Int.toNat_natCast, List.getD_eq_getElem?_getD, List.getElem?_eq_getElem hyl]; rfl)
          clear hcc d2
          try simp only [Nat.add_zero] at d1
          by_cases hm : m = 0
          · have HEM2 : Hid (∀ k : Int, 1 ≤ k → k ≤ ((n + 1 : Nat) : Int) → cset cs cn (a + (-1 : Int) * k) = []) := Lib.hid (fun k k1 k2 => by
              by_cases z : k ≤ (n : Int)
              · exact HEM.out k k1 z
              · rw [show k = (n : Int) + 1 by omega, HCS.out]
                exact List.eq_nil_of_length_eq_zero (by rw [HM.out]; exact hm))
            have HY2 : Hid ((a + (-1 : Int) * ((n + 1 : Nat) : Int)).fmod (cn : Int) = ((y : Nat) : Int)) := Lib.hid (by rw [show ((n + 1 : Nat) : Int) = (n : Int) + 1 by omega]; exact HY.out)
            have HK3 : Hid (Wk _ w0 w4 B b a (-1 : Int) (ps + ((n + 1 : Nat) : Int)) v L ∧ w.grownBy w4 (some b)) := Lib.hid ⟨by rw [show ps + ((n + 1 : Nat) : Int) = q + 1 by have := HQN.out; omega]; exact HK2.out, HG2.out⟩
            have m0 : ¬ (0 : Int) < (m : Int) := by omega
            clear HCS HEM HM HY HK2 HG2
            clear hyl
            go_wp2
            go_roundw
            case rel => exact ⟨n + 1, y, by omega, by go_num, rfl, by omega, HY2, HEM2, HK3⟩
            case measure => simp [intOf]; omega
          · have HX : Hid (Nxt cs cn a (-1 : Int) (a + -((n : Int) + 1))) := Lib.hid ⟨⟨(n : Int) + 1, by omega, by omega, by omega, fun k k1 k2 => HEM.out k k1 (by omega)⟩, by
              rw [show a + -((n : Int) + 1) = a + (-1 : Int) * ((n : Int) + 1) by omega, HCS.out]
              intro z
              have := HM.out
              rw [z] at this; exact hm this.symm⟩
            have m0 : (0 : Int) < (m : Int) := by omega
            clear HCS HEM HM
            clear hyl
            go_wp2
            go_region
            go_wp2
            go_returns
            exact ⟨a + -((n : Int) + 1), q + 1, v, L, (HK2.out.put 4 (.int .i64 (a + -((n : Int) + 1))) rfl HK2.out.own).keep (Below.refl _ _).drew, HV.out, .inl ⟨_, rfl, rfl, HX.out, HQ.out⟩, by omega, q1, grown_put HG2.out 4 _⟩
      · obtain rfl : cn = n := by omega
        have HE : Hid (∀ i, cg cs P cn i = []) := Lib.hid (fun i => (cg_nil r1 (by rw [HL.out])).2 (all_dn r1 HEM.out i))
        go_wp2
        go_returns
        exact ⟨a, _, v, L, HK.out, HV.out, .inr ⟨rfl, rfl, HE.out⟩, by omega, (show ps + (cn : Int) ≤ 2 * (cn : Int) by omega), HG.out⟩
set_option maxHeartbeats 1000000 in
theorem next_none (F : Fv) (w0 w : World) (B b : Nat) (a st ps : Int) (v : Value) (L : List Nat) (hk : Wk F w0 w B b a st ps v L) (hv : Ready F v L) (hr : ¬ F.Rep) (hp0 : 0 ≤ ps) (hp : ps ≤ 2 * F.cn) :
    Calls Try.prog 85 #[.pointer (some ⟨b, 0, none⟩)] w fun e w' => WkOut F w0 w B b a st e w' := by
  have HRP := Lib.hid (fun W h => repeats_any F W h false ⟨fun h => (by cases h), fun h => absurd h hr⟩)
  have HE : Hid (∀ i, cg F.cs F.P F.N i = []) := Lib.hid (fun i => by
    unfold cg
    rw [if_neg (by rw [hk.f.core.len]; exact hr)])
  have HP := Lib.hid hp
  have HV := Lib.hid hv
  have HK := Lib.hid hk
  clear hk hv hp hr
  obtain ⟨P, N, co, cn, cc, oo, on, oc, cs, os⟩ := F
  have HRP : Hid (∀ W, Fv.At ⟨P, N, co, cn, cc, oo, on, oc, cs, os⟩ W → Calls Try.prog 56 #[.agg #[.int .i64 P, .int .i64 N, .slice co cn cc, .slice oo on oc]] W fun e w' => e = .returned (.bool false) ∧ Below W.heap.size W w') := HRP
  have c0 : w.cell? ⟨b, 0, none⟩ = some (.int .i64 P) := HK.out.cell 0
  have c1 : w.cell? ⟨b, 1, none⟩ = some (.int .i64 N) := HK.out.cell 1
  have c2 : w.cell? ⟨b, 2, none⟩ = some (.slice co cn cc) := HK.out.cell 2
  have c3 : w.cell? ⟨b, 3, none⟩ = some (.slice oo on oc) := HK.out.cell 3
  go_enter Try.func85, Try.ntmps85
  go_wp2_with fail
  (with_reducible refine (HRP.out _ HK.out.at0).mono ?_)
  rintro e w1 ⟨rfl, q⟩
  have HG : Hid (w.grownBy w1 (some b)) := Lib.hid (grown_keep (World.grownBy.refl w _) q)
  have HK := Lib.hid (HK.out.keep q)
  clear q c0 c1 c2 c3
  go_wp2
  go_returns
  exact ⟨a, ps, v, L, HK.out, HV.out, .inr ⟨rfl, rfl, HE.out⟩, hp0, HP.out, HG.out⟩
theorem next_any (F : Fv) (w0 w : World) (B b : Nat) (a st ps : Int) (v : Value) (L : List Nat) (hst : st = 1 ∨ st = -1) (hk : Wk F w0 w B b a st ps v L) (hv : Ready F v L) (hc : F.cn ≤ 1000000) (ha1 : -2305843009213693952 ≤ a) (ha2 : a ≤ 2305843009213693952) (hp0 : 0 ≤ ps) (hp : ps ≤ 2 * F.cn) :
    Calls Try.prog 85 #[.pointer (some ⟨b, 0, none⟩)] w fun e w' => WkOut F w0 w B b a st e w' := by
  by_cases hr : F.Rep
  · rcases hst with rfl | rfl
    · exact next_upR F w0 w B b a ps v L hk hv hr hc ha1 ha2 hp0 hp
    · exact next_dnR F w0 w B b a ps v L hk hv hr hc ha1 ha2 hp0 hp
  · exact next_none F w0 w B b a st ps v L hk hv hr hp0 hp
/-- The nearest granule beyond an index, one way. -/
structure Nr (F : Fv) (i st j : Int) (ok : Bool) : Prop where
  yes : ok = true → i * st < j * st ∧ gr F j ≠ [] ∧ ∀ k, i * st < k * st → k * st < j * st → gr F k = []
  no : ok = false → ∀ k, i * st < k * st → gr F k = []
  low : -1152921504606846976 ≤ j
  high : j ≤ 1152921504606846976
theorem nxt_mid {cs : List (List Sp)} {N x st j : Int} (hst : st = 1 ∨ st = -1) (h : Nxt cs N x st j) : x * st < j * st ∧ (∀ k, x * st < k * st → k * st < j * st → cset cs N k = []) ∧ x - 2 * N ≤ j ∧ j ≤ x + 2 * N := by
  obtain ⟨⟨d, d1, d2, rfl, hd⟩, hj⟩ := h
  rcases hst with rfl | rfl
  · refine ⟨by omega, fun k k1 k2 => ?_, by omega, by omega⟩
    have := hd (k - x) (by omega) (by omega)
    rw [show x + 1 * (k - x) = k by omega] at this
    exact this
  · refine ⟨by omega, fun k k1 k2 => ?_, by omega, by omega⟩
    have := hd (x - k) (by omega) (by omega)
    rw [show x + -1 * (x - k) = k by omega] at this
    exact this
theorem gr_free {F : Fv} {k : Int} (h : exc F.os k = none) : gr F k = cg F.cs F.P F.N k := by unfold gr; rw [h]
theorem cg_of_cset {F : Fv} (hl : F.cs.length = F.cn) (hr : F.Rep) (k : Int) : cg F.cs F.P F.N k = [] ↔ cset F.cs F.N k = [] := cg_nil hr.1 (by rw [hl]; exact hr.2)
theorem nr_free {F : Fv} {x st j : Int} (hl : F.cs.length = F.cn) (hst : st = 1 ∨ st = -1) (hr : F.Rep) (hn : Nxt F.cs F.N x st j) (hf : ∀ k, x * st < k * st → k * st ≤ j * st → exc F.os k = none) (h1 : -576460752303423488 ≤ x) (h2 : x ≤ 576460752303423488) (hc : F.cn ≤ 1000000) : Nr F x st j true := by
  obtain ⟨q1, q2, q3, q4⟩ := nxt_mid hst hn
  have hN := hr.2
  refine ⟨fun _ => ⟨q1, ?_, fun k k1 k2 => ?_⟩, (fun h => by cases h), by omega, by omega⟩
  · rw [gr_free (hf j q1 (Int.le_refl _))]
    intro e
    exact hn.here ((cg_of_cset hl hr j).1 e)
  · rw [gr_free (hf k k1 (Int.le_of_lt k2))]
    exact (cg_of_cset hl hr k).2 (q2 k k1 k2)
theorem nr_end {F : Fv} {x st : Int} (hc : ∀ i, cg F.cs F.P F.N i = []) (hf : ∀ k, x * st < k * st → exc F.os k = none) : Nr F x st 0 false :=
  ⟨(fun h => by cases h), fun _ k k1 => by rw [gr_free (hf k k1)]; exact hc k, by omega, by omega⟩
theorem nr_take {F : Fv} {x st o : Int} (h : x * st < o * st) (hm : ∀ k, x * st < k * st → k * st < o * st → gr F k = []) (ho : gr F o ≠ []) (h1 : -1152921504606846976 ≤ o) (h2 : o ≤ 1152921504606846976) : Nr F x st o true :=
  ⟨fun _ => ⟨h, ho, hm⟩, (fun h => by cases h), h1, h2⟩
theorem nr_pass {F : Fv} {x st o j : Int} {ok : Bool} (hst : st = 1 ∨ st = -1) (h : x * st < o * st) (hm : ∀ k, x * st < k * st → k * st < o * st → gr F k = []) (ho : gr F o = []) (hn : Nr F o st j ok) : Nr F x st j ok := by
  have hk : ∀ k, x * st < k * st → ¬ o * st < k * st → gr F k = [] := fun k k1 k2 => by
    by_cases e : k * st = o * st
    · have : k = o := by rcases hst with rfl | rfl <;> omega
      rw [this]; exact ho
    · exact hm k k1 (by omega)
  refine ⟨fun e => ?_, fun e k k1 => ?_, hn.low, hn.high⟩
  · obtain ⟨a, b, c⟩ := hn.yes e
    refine ⟨by omega, b, fun k k1 k2 => ?_⟩
    by_cases q : o * st < k * st
    · exact c k q k2
    · exact hk k k1 q
  · by_cases q : o * st < k * st
    · exact hn.no e k q
    · exact hk k k1 q
theorem exc_mid {os : List Gr} (h : os.Pairwise (fun a b => a.1 < b.1)) (i : Nat) (h1 : i + 1 < os.length) (k : Int) (k1 : os[i].1 < k) (k2 : k < os[i + 1].1) : exc os k = none := by
  rw [exc_none]
  intro o ho e
  obtain ⟨j, hj, rfl⟩ := List.getElem_of_mem ho
  by_cases q : j ≤ i
  · have := inc_le h j i hj (by omega) q; omega
  · have := inc_le h (i + 1) j h1 hj (by omega); omega
theorem exc_high {os : List Gr} (h : os.Pairwise (fun a b => a.1 < b.1)) (i : Nat) (h1 : i < os.length) (hl : i + 1 = os.length) (k : Int) (k1 : os[i].1 < k) : exc os k = none := by
  rw [exc_none]
  intro o ho e
  obtain ⟨j, hj, rfl⟩ := List.getElem_of_mem ho
  have := inc_le h j i hj (by omega) (by omega); omega
theorem exc_low {os : List Gr} (h : os.Pairwise (fun a b => a.1 < b.1)) (h1 : 0 < os.length) (k : Int) (k1 : k < os[0].1) : exc os k = none := by
  rw [exc_none]
  intro o ho e
  obtain ⟨j, hj, rfl⟩ := List.getElem_of_mem ho
  have := inc_le h 0 j (by omega) hj (by omega); omega
theorem gr_at {F : Fv} (h : F.os.Pairwise (fun a b => a.1 < b.1)) (i : Nat) (h1 : i < F.os.length) : gr F F.os[i].1 = F.os[i].2 := by unfold gr; rw [exc_at h h1 rfl]
/-- Between an exception and the next one nothing, if the walk went past it. -/
theorem mid_none {F : Fv} {x st o : Int} (hl : F.cs.length = F.cn) (hst : st = 1 ∨ st = -1) (hf : ∀ k, x * st < k * st → k * st < o * st → exc F.os k = none) (h : (∀ i, cg F.cs F.P F.N i = []) ∨ ∃ j, Nxt F.cs F.N x st j ∧ F.Rep ∧ 0 ≤ (j - o) * st) : ∀ k, x * st < k * st → k * st < o * st → gr F k = [] := by
  intro k k1 k2
  rw [gr_free (hf k k1 k2)]
  rcases h with h | ⟨j, h1, h2, h3⟩
  · exact h k
  · rw [cg_of_cset hl h2]
    refine (nxt_mid hst h1).2.1 k k1 ?_
    rcases hst with rfl | rfl <;> omega
theorem info91 : (Try.prog.info? 91).map (fun i => (i.zero, i.size, i.bytes)) = some (some (.agg #[.int .i64 0, .bool false]), 2, 16) := by kernel_rfl
/-- The row of neighbours, as far as it is done. -/
structure Nbs (F : Fv) (w0 w : World) (B b g bF : Nat) (a st : Int) (done : Nat → Prop) : Prop where
  wk : ∃ ps v L, Wk F w0 w B b a st ps v L ∧ Ready F v L ∧ 0 ≤ ps ∧ ps ≤ 2 * F.cn
  row : ∃ xs, w.ownsRow w0.heap.size 91 2 (.slice (some ⟨g, 0, none⟩) F.on F.on) F.on xs ∧ ∀ i, done i → ∀ h : i < F.os.length, ∃ j ok, xs[i * 2]? = some (.int .i64 j) ∧ xs[i * 2 + 1]? = some (.bool ok) ∧ Nr F F.os[i].1 st j ok
  g1 : w0.heap.size ≤ g
  g2 : g < B
  g3 : g ≠ b
  box : w.heap[bF]? = some (.cells F.box 25 (0, 0))
  f1 : bF < B
  f2 : bF ≠ b
  f3 : bF ≠ g
theorem Nbs.grown {F : Fv} {w0 w w' : World} {B b g bF : Nat} {a st a2 : Int} {done : Nat → Prop} (h : Nbs F w0 w B b g bF a st done) (hg : w.grownBy w' (some b)) (hk : ∃ ps v L, Wk F w0 w' B b a2 st ps v L ∧ Ready F v L ∧ 0 ≤ ps ∧ ps ≤ 2 * F.cn) : Nbs F w0 w' B b g bF a2 st done := by
  obtain ⟨xs, h1, h2⟩ := h.row
  obtain ⟨ps, v, L, k1, _⟩ := h.wk
  refine ⟨hk, ⟨xs, h1.kept hg (.inr (fun e => h.g3 (by cases e; rfl))), h2⟩, h.g1, h.g2, h.g3, (hg.block bF (Nat.lt_of_lt_of_le h.f1 k1.sz) (fun e => h.f2 (by cases e; rfl))).trans h.box, h.f1, h.f2, h.f3⟩
theorem Nbs.keep {F : Fv} {w0 w w' : World} {B b g bF : Nat} {a st : Int} {done : Nat → Prop} (h : Nbs F w0 w B b g bF a st done) (k : Below w.heap.size w w') : Nbs F w0 w' B b g bF a st done := by
  obtain ⟨ps, v, L, k1, k2⟩ := h.wk
  exact h.grown ((grown_of_below k).but _) ⟨ps, v, L, k1.keep k, k2⟩
theorem Nbs.setAt {F : Fv} {w0 w : World} {B b g bF : Nat} {a st : Int} {done : Nat → Prop} (h : Nbs F w0 w B b g bF a st done) (a2 : Int) : Nbs F w0 (w.setCell ⟨b, 4, none⟩ (.int .i64 a2)) B b g bF a2 st done := by
  obtain ⟨ps, v, L, k1, k2⟩ := h.wk
  exact h.grown (grown_put0 (World.grownBy.refl w _) 4 _) ⟨ps, v, L, k1.put 4 (.int .i64 a2) rfl k1.own, k2⟩
theorem Nbs.store {F : Fv} {w0 w : World} {B b g bF : Nat} {a st : Int} {done : Nat → Prop} (h : Nbs F w0 w B b g bF a st done) (i : Nat) (j : Int) (ok : Bool) (done2 : Nat → Prop) (hd : ∀ k, done2 k → k ≠ i → done k) (hi : ∀ q : i < F.os.length, done2 i → Nr F F.os[i].1 st j ok) :
    Nbs F w0 ((w.setCell ⟨g, i * 2, none⟩ (.int .i64 j)).setCell ⟨g, i * 2 + 1, none⟩ (.bool ok)) B b g bF a st done2 := by
  obtain ⟨xs, h1, h2⟩ := h.row
  obtain ⟨ps, v, L, k1, k2⟩ := h.wk
  have s1 := h1.stored (i * 2) (.int .i64 j)
  have s2 := s1.1.stored (i * 2 + 1) (.bool ok)
  have hg := s1.2.trans s2.2
  refine ⟨⟨ps, v, L, k1.grown hg (fun q e => by cases e; exact ⟨h.g1, h.g2, h.g3⟩), k2⟩, ⟨_, s2.1, fun k hk q => ?_⟩, h.g1, h.g2, h.g3, (hg.block bF (Nat.lt_of_lt_of_le h.f1 k1.sz) (fun e => h.f3 (by cases e; rfl))).trans h.box, h.f1, h.f2, h.f3⟩
  have hlen := h1.1
  have hql : F.os.length = F.on := k1.f.odd.len
  by_cases e : k = i
  · subst e
    refine ⟨j, ok, ?_, ?_, hi q hk⟩
    · rw [List.getElem?_set_ne (by omega), List.getElem?_set_self (by omega)]
    · rw [List.getElem?_set_self (by simp; omega)]
  · obtain ⟨j2, ok2, x1, x2, x3⟩ := h2 k (hd k hk e) q
    refine ⟨j2, ok2, ?_, ?_, x3⟩
    · rw [List.getElem?_set_ne (by omega), List.getElem?_set_ne (by omega)]; exact x1
    · rw [List.getElem?_set_ne (by omega), List.getElem?_set_ne (by omega)]; exact x2
theorem Nbs.spot {F : Fv} {w0 w : World} {B b g bF : Nat} {a st : Int} {done : Nat → Prop} (h : Nbs F w0 w B b g bF a st done) (i : Nat) (hi : i < F.on) : ∃ u v, w.cell? ⟨g, i * 2, none⟩ = some u ∧ w.cell? ⟨g, i * 2 + 1, none⟩ = some v ∧ w.frozen? ⟨g, i * 2, none⟩ = false ∧ w.frozen? ⟨g, i * 2 + 1, none⟩ = false := by
  obtain ⟨xs, h1, h2⟩ := h.row
  have hl := h1.1
  refine ⟨xs[i * 2]'(by omega), xs[i * 2 + 1]'(by omega), ?_, ?_, h1.frozenAt _, h1.frozenAt _⟩
  · rw [h1.cellAt _ (by omega)]; exact List.getElem?_eq_getElem _
  · rw [h1.cellAt _ (by omega)]; exact List.getElem?_eq_getElem _
theorem Nbs.got {F : Fv} {w0 w : World} {B b g bF : Nat} {a st : Int} {done : Nat → Prop} (h : Nbs F w0 w B b g bF a st done) (i : Nat) (hd : done i) (hi : i < F.os.length) : ∃ j ok, w.cell? ⟨g, i * 2, none⟩ = some (.int .i64 j) ∧ w.cell? ⟨g, i * 2 + 1, none⟩ = some (.bool ok) ∧ Nr F F.os[i].1 st j ok := by
  obtain ⟨xs, h1, h2⟩ := h.row
  obtain ⟨ps, v, L, k1, _⟩ := h.wk
  have hql : F.os.length = F.on := k1.f.odd.len
  obtain ⟨j, ok, x1, x2, x3⟩ := h2 i hd hi
  refine ⟨j, ok, ?_, ?_, x3⟩
  · rw [h1.cellAt _ (by omega)]; exact x1
  · rw [h1.cellAt _ (by omega)]; exact x2
theorem Nbs.boxc {F : Fv} {w0 w : World} {B b g bF : Nat} {a st : Int} {done : Nat → Prop} (h : Nbs F w0 w B b g bF a st done) (k : Nat) : w.cell? ⟨bF, k, none⟩ = (F.box)[k]? := by
  unfold World.cell?; rw [h.box]; rfl
theorem Nbs.spotW {F : Fv} {w0 w : World} {B b g bF : Nat} {a st : Int} {done : Nat → Prop} (h : Nbs F w0 w B b g bF a st done) : ∃ u, w.cell? ⟨b, 4, none⟩ = some u ∧ w.frozen? ⟨b, 4, none⟩ = false := by
  obtain ⟨ps, v, L, k1, _⟩ := h.wk
  exact ⟨_, k1.cell 4, k1.free 4⟩
theorem Nbs.at0 {F : Fv} {w0 w : World} {B b g bF : Nat} {a st : Int} {done : Nat → Prop} (h : Nbs F w0 w B b g bF a st done) : F.At w := by
  obtain ⟨ps, v, L, k1, _⟩ := h.wk
  exact k1.at0
theorem grown_two (w : World) (g k : Nat) (u v : Value) : w.grownBy ((w.setCell ⟨g, k, none⟩ u).setCell ⟨g, k + 1, none⟩ v) (some g) := grown_put0 (grown_put0 (World.grownBy.refl w _) k u) (k + 1) v
theorem Nbs.next {F : Fv} {w0 w : World} {B b g bF : Nat} {a st : Int} {done : Nat → Prop} (hst : st = 1 ∨ st = -1) (h : Nbs F w0 w B b g bF a st done) (hc : F.cn ≤ 1000000) (ha1 : -2305843009213693952 ≤ a) (ha2 : a ≤ 2305843009213693952) : Calls Try.prog 85 #[.pointer (some ⟨b, 0, none⟩)] w fun e w' => ∃ a2, NxOut F a st e a2 ∧ Hid (Nbs F w0 w' B b g bF a2 st done) := by
  obtain ⟨ps, v, L, k1, k2, k3, k4⟩ := h.wk
  refine (next_any F w0 w B b a st ps v L hst k1 k2 hc ha1 ha2 k3 k4).mono ?_
  rintro e w' ⟨a2, ps2, v2, L2, q1, q2, q3, q4, q5, q6⟩
  exact ⟨a2, q3, Lib.hid (h.grown q6 ⟨ps2, v2, L2, q1, q2, q4, q5⟩)⟩
end Go.Proofs.Ytmjapbjjfhmohaa
