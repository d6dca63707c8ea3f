/- G17d in one. -/
import Derived.Test.YtmjapbjjfhmohaaKh
namespace Go.Proofs.Ytmjapbjjfhmohaa
set_option linter.unusedVariables false
set_option linter.unusedSimpArgs false
open Go.ChangeShapes Go.WideShapes Go.ChangeAt Go.RowKit
set_option maxRecDepth 8000 in
set_option maxHeartbeats 4000000 in
theorem neighbors_dn (F : Fv) (w : World) (hF : F.At w) (ok : F.Ok) :
    Calls Try.prog 67 #[F.v, .int .i64 (-1)] w fun e w' => ∃ g, e = .returned (.slice (some ⟨g, 0, none⟩) F.on F.on) ∧ Hid (Below w.heap.size w w') ∧ Hid (∃ xs, w'.ownsRow w.heap.size 91 2 (.slice (some ⟨g, 0, none⟩) F.on F.on) F.on xs ∧ ∀ i (h : i < F.os.length), ∃ j ok, xs[i * 2]? = some (.int .i64 j) ∧ xs[i * 2 + 1]? = some (.bool ok) ∧ Nr F F.os[i].1 (-1 : Int) j ok) := by
  obtain ⟨i0, hi, hz0, hz1, hz2⟩ := info_parts info91
  have hmon := ok.on
  have hmcn := ok.cn
  have HOK := Lib.hid ok
  have HF0 := Lib.hid hF
  clear ok
  obtain ⟨P, N, co, cn, cc, oo, on, oc, cs, os⟩ := F
  have LC : Hid (cs.length = cn) := Lib.hid hF.core.len
  have LO : Hid (os.length = on) := Lib.hid hF.odd.len
  have hmc : cn ≤ 9223372036854775807 := Nat.le_trans hF.core.le hF.core.top
  have hmo : on ≤ 9223372036854775807 := Nat.le_trans hF.odd.le hF.odd.top
  obtain ⟨b, hb⟩ : ∃ b, w.heap.size = b := ⟨_, rfl⟩
  obtain ⟨wb, hwb⟩ : ∃ wb, w.alloc (.cells #[.int .i64 P, .int .i64 N, .slice co cn cc, .slice oo on oc] 25) = wb := ⟨_, rfl⟩
  have HBB : Hid (Fbox ⟨P, N, co, cn, cc, oo, on, oc, cs, os⟩ w wb b) := Lib.hid (by rw [← hwb, ← hb]; exact fbox_new hF)
  clear hF
  show Calls Try.prog 67 #[.agg #[.int .i64 P, .int .i64 N, .slice co cn cc, .slice oo on oc], .int .i64 (-1)] w _
  go_enter Try.func67, Try.ntmps67
  go_upto_region 1 with fail
  have HBX : Hid (wb.heap[b]? = some (.cells #[.int .i64 P, .int .i64 N, .slice co cn cc, .slice oo on oc] 25 (0, 0))) := Lib.hid (by rw [← hwb, ← hb]; show (w.heap.push _)[w.heap.size]? = _; simp)
  have HBS : Hid (wb.heap.size = b + 1) := Lib.hid (by rw [← hwb, ← hb]; simp)
  have HBL : Hid (w.heap.size = b) := Lib.hid hb
  clear hwb hb
  have e3 : wb.cell? ⟨b, 3, none⟩ = some (.slice oo on oc) := HBB.out.c3
  have hmon : on ≤ 1000000 := hmon
  have hmcn : cn ≤ 1000000 := hmcn
  go_upto_region 2 with (at_make; refine wpList_make_full _ rfl _ _ 88 rfl wb.heap.size 91 i0 (.agg #[.int .i64 0, .bool false]) 2 Try.underlying88 hi hz0 hz1 .i64 .i64 _ _ on rfl rfl rfl rfl (by rw [hz2]; omega) (by unfold maxLen; omega) (Nat.le_refl _) ?_; intro w1 hown hgrow; have HO := Lib.hid hown; have HG := Lib.hid hgrow; clear hown hgrow)
  obtain ⟨g, hg⟩ : ∃ q, wb.heap.size = q := ⟨_, rfl⟩
  rw [hg] at HO
  rw [hg]
  have HGB : Hid (g = b + 1) := Lib.hid (by rw [← hg]; exact HBS.out)
  have HB1 : Hid (Below wb.heap.size wb w1) := Lib.hid ⟨HG.out.os, HG.out.tape, HG.out.output, HG.out.size, fun k hk => HG.out.block k hk (fun e => by cases e)⟩
  have HBB := Lib.hid (HBB.out.keep HB1.out)
  have HBX1 : Hid (w1.heap[b]? = some (.cells #[.int .i64 P, .int .i64 N, .slice co cn cc, .slice oo on oc] 25 (0, 0))) := Lib.hid (by rw [HB1.out.block b (by rw [HBS.out]; omega)]; exact HBX.out)
  clear e3 hg HG HBS HBX HB1
  have e0 : w1.cell? ⟨b, 0, none⟩ = some (.int .i64 P) := HBB.out.c0
  have e1 : w1.cell? ⟨b, 1, none⟩ = some (.int .i64 N) := HBB.out.c1
  have e2 : w1.cell? ⟨b, 2, none⟩ = some (.slice co cn cc) := HBB.out.c2
  have e3 : w1.cell? ⟨b, 3, none⟩ = some (.slice oo on oc) := HBB.out.c3
  go_upto_region 3 with fail
  obtain ⟨bw, hbw⟩ : ∃ q, w1.heap.size = q := ⟨_, rfl⟩
  obtain ⟨w2, hw2⟩ : ∃ q, w1.alloc (.cells #[.int .i64 P, .int .i64 N, .slice co cn cc, .slice oo on oc, .int .i64 0, .int .i64 (-1), .int .i64 0, .slice none 0 0] 112) = q := ⟨_, rfl⟩
  rw [hw2, hbw]
  have HS2 : Hid (w2.heap.size = bw + 1) := Lib.hid (by rw [← hw2, ← hbw]; simp)
  have HB2 : Hid (Below w1.heap.size w1 w2) := Lib.hid (by rw [← hw2]; exact (Below.refl _ w1).alloc (Nat.le_refl _) _)
  have HW2 : Hid (w2.heap[bw]? = some (.cells #[.int .i64 P, .int .i64 N, .slice co cn cc, .slice oo on oc, .int .i64 0, .int .i64 (-1), .int .i64 0, .slice none 0 0] 112 (0, 0))) := Lib.hid (by rw [← hw2, ← hbw]; show (w1.heap.push _)[w1.heap.size]? = _; simp)
  have HGW : Hid (g < bw) := Lib.hid (by
    have h1 := HO.out.lt g rfl
    rw [← hbw]; exact h1.2)
  rw [hbw] at HB2
  clear hw2
  have HN : Hid (∃ a, Nbs ⟨P, N, co, cn, cc, oo, on, oc, cs, os⟩ w w2 (bw + 1) bw g b a (-1 : Int) (fun iq => iq < 0)) := Lib.hid ⟨0, ⟨0, .slice none 0 0, [], ⟨HF0.out, HBB.out.bw.trans (HB2.out.mono (by rw [← hbw]; exact HBB.out.bw.size)), by have := HBL.out; have := HGB.out; have := HGW.out; omega, by omega, by rw [HS2.out]; exact Nat.le_refl _, HW2.out, World.ownsRow_nil _ _ _ _⟩, .inl rfl, by omega, by show (0 : Int) ≤ 2 * (cn : Int); omega⟩,
    ⟨_, own_base (keepB HO.out (by rw [hbw]; exact HB2.out)) (by have := HBL.out; have := HGB.out; omega), fun i hd hi => by have h2 := LO.out; simp only at hd hi; omega⟩, by have := HBL.out; have := HGB.out; omega, by have := HGW.out; omega, by have := HGW.out; omega, (HB2.out.block b (by have := HGB.out; have := HGW.out; omega)).trans HBX1.out, by have := HGB.out; have := HGW.out; omega, by have := HGB.out; have := HGW.out; omega, by have := HGB.out; omega⟩
  have HBW2 : Hid (w.heap.size ≤ b) := Lib.hid (Nat.le_of_eq HBL.out)
  clear hbw HS2 HB2 HW2 HGW e0 e1 e2 e3 HBX1 HBB HO HF0 HGB HBL
  go_wp2
  go_loopw [21] (fun ii wr => ∃ n : Nat, n ≤ on ∧ ii = .int .i64 n ∧ Hid (∃ a, Nbs ⟨P, N, co, cn, cc, oo, on, oc, cs, os⟩ w wr (bw + 1) bw g b a (-1 : Int) (fun iq => iq < n))) (fun ii _ => on - (intOf ii).toNat)
  case atStart => exact ⟨0, Nat.zero_le _, rfl, HN⟩
  case round =>
    obtain ⟨n, hn, rfl, HW⟩ := hrel
    clear HN
    obtain ⟨a0, hnb⟩ := HW.out
    have HN := Lib.hid hnb
    clear hnb
    clear HW
    by_cases nlt : n < on
    · obtain ⟨i, hi9⟩ : ∃ i : Nat, i = n := ⟨_, rfl⟩
      have ilt : i < on := by omega
      have HI9 := Lib.hid hi9
      subst hi9
      have i0 : (0 : Int) ≤ (i : Int) := by omega
      have i1 : (i : Int) < (on : Int) := by omega
      have e3 : wr.cell? ⟨b, 3, none⟩ = some (.slice oo on oc) := HN.out.boxc 3
      obtain ⟨u4, c4, f4⟩ := HN.out.spotW
      obtain ⟨q, p, e, hcc⟩ := (show OdAt wr oo on oc os from HN.out.at0.odd).here (by omega)
      cases e
      have hil : i < os.length := by rw [LO.out]; exact ilt
      obtain ⟨d1, ⟨so, m, d, d2, d3⟩, d4, d5⟩ := hcc i hil
      have HXR : Hid (-1099511627776 ≤ (os[i]'hil).1 ∧ (os[i]'hil).1 ≤ 1099511627776) := Lib.hid (HOK.out.odd.good _ (List.getElem_mem hil)).2
      have HIX : Hid (∃ x, (os[i]'hil).1 = x) := Lib.hid ⟨_, rfl⟩
      obtain ⟨x, hx⟩ := HIX.out
      rw [hx] at d1 d4 d5 HXR
      have HX : Hid (∃ h : i < os.length, os[i].1 = x) := Lib.hid ⟨hil, hx⟩
      clear hcc d2 d3 hx HIX
      clear hil
      go_upto_region 10 with fail
      have HN4 := Lib.hid (HN.out.setAt x)
      generalize hw4 : wr.setCell ⟨bw, 4, none⟩ (.int .i64 x) = w4
      rw [hw4] at HN4
      clear hw4 HN c4 f4 e3 d1 u4
      have x1 := HXR.out.1
      have x2 := HXR.out.2
      have HNX := Lib.hid (HN4.out.next (.inr rfl) hmcn (by omega) (by omega))
      clear HN4
      go_wp2_with fail
      (with_reducible refine HNX.out.mono ?_)
      rintro e w5 ⟨a2, hx3, HN5⟩
      clear HNX
      obtain ⟨v1, v2, s1, s2, s3, s4⟩ := HN5.out.spot i ilt
      have HDN : Hid (∀ k, (fun iq => iq < (i + 1)) k → k ≠ i → (fun iq => iq < i) k) := Lib.hid (fun k h h2 => by have := HI9.out; (try simp only at h ⊢); omega)
      rcases hx3 with ⟨j, rfl, hj2, hn5, hr5⟩ | ⟨rfl, hj2, hc5⟩
      · skip
        have HN5x := Lib.hid hn5
        have HR5 := Lib.hid hr5
        have jr : x - 2 * (cn : Int) ≤ j ∧ j ≤ x + 2 * (cn : Int) := by
          have h1 := (nxt_mid (.inr rfl) hn5).2.2
          have h2 : N = (cn : Int) := hr5.2
          simp only at h1; omega
        obtain ⟨jr1, jr2⟩ := jr
        clear hn5 hr5 hj2
        go_upto_region 12 with fail
        by_cases n0 : i = 0
        · have HN6 := Lib.hid (HN5.out.store i j true (fun iq => iq < (i + 1)) HDN.out (fun qq _ => by obtain ⟨h1, h2⟩ := HX.out; (try simp only); rw [h2]; exact (nr_free (F := ⟨P, N, co, cn, cc, some ⟨q, p, none⟩, on, oc, cs, os⟩) LC.out (.inr rfl) HR5.out HN5x.out (fun (k : Int) (k1 : x * (-1 : Int) < k * (-1 : Int)) _ => by obtain ⟨h1, h2⟩ := HX.out; have h3 := HI9.out; have h4 := LO.out; exact exc_low HOK.out.odd.inc (by omega) k (by have : i = 0 := (by omega); subst this; (try simp only); omega)) (by omega) (by omega) hmcn)))
          generalize hw6 : (w5.setCell ⟨g, i * 2, none⟩ (.int .i64 j)).setCell ⟨g, i * 2 + 1, none⟩ (.bool true) = w6
          rw [hw6] at HN6
          clear hw6 HN5 s1 s2 s3 s4 v1 v2
          have n0i : ((i : Int) == 0) = true := by simp; omega
          go_wp2
          go_roundw
          case rel => exact ⟨i + 1, by omega, by go_num, Lib.hid ⟨_, HN6.out⟩⟩
          case measure => simp [intOf]; omega
        · have n0i : ((i : Int) == 0) = false := by simp; omega
          obtain ⟨i2, hi2⟩ : ∃ i2 : Nat, i = i2 + 1 := ⟨i - 1, by omega⟩
          have t10 : (i : Int) + (-1 : Int) = (i2 : Int) := by omega
          have i2lt : i2 < on := by omega
          have i20 : (0 : Int) ≤ (i2 : Int) := by omega
          have i21 : (i2 : Int) < (on : Int) := by omega
          have HI2 := Lib.hid hi2
          clear hi2
          have hil2 : i2 < os.length := by rw [LO.out]; exact i2lt
          obtain ⟨o, ho⟩ : ∃ o, (os[i2]'hil2).1 = o := ⟨_, rfl⟩
          have HO1 : Hid (∃ h : i2 < os.length, os[i2].1 = o) := Lib.hid ⟨hil2, ho⟩
          have o1 : -1099511627776 ≤ o := by rw [← ho]; exact (HOK.out.odd.good _ (List.getElem_mem hil2)).2.1
          have o2 : o ≤ 1099511627776 := by rw [← ho]; exact (HOK.out.odd.good _ (List.getElem_mem hil2)).2.2
          have hxo : o < x := by
            obtain ⟨h1, h2⟩ := HX.out
            have h3 := HI2.out
            rw [← h2, ← ho]
            exact inc_at HOK.out.odd.inc _ _ (by first | exact h1 | exact hil2) (by first | exact hil2 | exact h1) (by omega)
          have HFM : Hid (∀ k : Int, x * (-1 : Int) < k * (-1 : Int) → k * (-1 : Int) < o * (-1 : Int) → exc os k = none) := Lib.hid (fun k k1 k2 => by
            obtain ⟨h1, h2⟩ := HX.out
            obtain ⟨h3, h4⟩ := HO1.out
            have h5 := HI2.out
            subst h5
            exact exc_mid HOK.out.odd.inc _ (by omega) k (by simp only [h4]; omega) (by simp only [h2]; omega))
          have HGO : Hid (gr ⟨P, N, co, cn, cc, some ⟨q, p, none⟩, on, oc, cs, os⟩ o = (os[i2]'hil2).2) := Lib.hid (by rw [← ho]; exact gr_at (F := ⟨P, N, co, cn, cc, some ⟨q, p, none⟩, on, oc, cs, os⟩) HOK.out.odd.inc i2 hil2)
          clear ho
          by_cases hjo : j ≤ o
          · have HN6 := Lib.hid (HN5.out.store i j true (fun iq => iq < i) (fun k h _ => h) (fun qq h => by have h2 := HI9.out; (try simp only at h); omega))
            generalize hw6 : (w5.setCell ⟨g, i * 2, none⟩ (.int .i64 j)).setCell ⟨g, i * 2 + 1, none⟩ (.bool true) = w6
            rw [hw6] at HN6
            clear hw6 HN5 s1 s2 s3 s4 v1 v2
            have e3 : w6.cell? ⟨b, 3, none⟩ = some (.slice (some ⟨q, p, none⟩) on oc) := HN6.out.boxc 3
            obtain ⟨q2, p2, e, hcc⟩ := (show OdAt w6 (some ⟨q, p, none⟩) on oc os from HN6.out.at0.odd).here (by omega)
            cases e
            obtain ⟨d1, ⟨so, m, d, d2, d3⟩, d4, d5⟩ := hcc i2 hil2
            have HLN := Lib.hid d3.len
            rw [← HGO.out] at HLN
            have HEO : (os[i2]'hil2).1 = o := by obtain ⟨h1, h2⟩ := HO1.out; exact h2
            rw [HEO] at d1
            clear hcc d3 d4 d5 HEO HGO
            clear hil2
            go_upto_region 14 with fail
            obtain ⟨bo, hbo⟩ : ∃ z, w6.heap.size = z := ⟨_, rfl⟩
            have x7 := (box_cells w6 (.int .i64 o) (.slice so m d) 52).1
            have x8 := (box_cells w6 (.int .i64 o) (.slice so m d) 52).2
            have HN7 := Lib.hid (HN6.out.keep ((Below.refl _ w6).alloc (Nat.le_refl _) (.cells #[.int .i64 o, .slice so m d] 52)))
            have HGB : Hid (g ≠ bo) := Lib.hid (by rw [← hbo]; obtain ⟨ps, v, L, k1, _⟩ := HN6.out.wk; have := HN6.out.g2; have := k1.sz; omega)
            generalize hw7 : w6.alloc (.cells #[.int .i64 o, .slice so m d] 52) = w7
            rw [hw7] at HN7 x7 x8
            rw [hbo] at x7 x8
            rw [hbo]
            clear hw7 hbo HN6 e3 d1 d2
            obtain ⟨j2, ok2, y1, y2, hN2⟩ := HN7.out.got i2 (by have := HI9.out; have := HI2.out; (try simp only); omega) (by have := LO.out; (try simp only); omega)
            have HN2 : Hid (Nr ⟨P, N, co, cn, cc, some ⟨q, p, none⟩, on, oc, cs, os⟩ o (-1 : Int) j2 ok2) := Lib.hid (by obtain ⟨h1, h2⟩ := HO1.out; rw [← h2]; exact hN2)
            clear hN2
            obtain ⟨v1, v2, s1, s2, s3, s4⟩ := HN7.out.spot i ilt
            have HMN : Hid (∀ k : Int, x * (-1 : Int) < k * (-1 : Int) → k * (-1 : Int) < o * (-1 : Int) → gr ⟨P, N, co, cn, cc, some ⟨q, p, none⟩, on, oc, cs, os⟩ k = []) := Lib.hid (mid_none (F := ⟨P, N, co, cn, cc, some ⟨q, p, none⟩, on, oc, cs, os⟩) LC.out (.inr rfl) HFM.out (.inr ⟨j, HN5x.out, HR5.out, by omega⟩))
            by_cases hm0 : m = 0
            · have HG0 : Hid (gr ⟨P, N, co, cn, cc, some ⟨q, p, none⟩, on, oc, cs, os⟩ o = []) := Lib.hid (List.eq_nil_of_length_eq_zero (by rw [HLN.out]; exact hm0))
              have m0 : ¬ (0 : Int) < (m : Int) := by omega
              go_upto_region 16 with fail
              have HN8 := Lib.hid (HN7.out.store i j2 ok2 (fun iq => iq < (i + 1)) HDN.out (fun qq _ => by obtain ⟨h1, h2⟩ := HX.out; (try simp only); rw [h2]; exact nr_pass (.inr rfl) (by omega) HMN.out HG0.out HN2.out))
              have HGR := Lib.hid (grown_two w7 g (i * 2) (.int .i64 j2) (.bool ok2))
              generalize hw8 : (w7.setCell ⟨g, i * 2, none⟩ (.int .i64 j2)).setCell ⟨g, i * 2 + 1, none⟩ (.bool ok2) = w8
              rw [hw8] at HN8 HGR
              have x8 := HGR.out.cell x8 (fun e => HGB.out (by cases e; rfl))
              clear hw8 HN7 s1 s2 s3 s4 v1 v2 x7 y1 y2
              go_wp2
              go_roundw
              case rel => exact ⟨i + 1, by omega, by go_num, Lib.hid ⟨_, HN8.out⟩⟩
              case measure => simp [intOf]; omega
            · have HG0 : Hid (gr ⟨P, N, co, cn, cc, some ⟨q, p, none⟩, on, oc, cs, os⟩ o ≠ []) := Lib.hid (fun h => by have h2 := HLN.out; rw [h] at h2; exact hm0 h2.symm)
              have m0 : (0 : Int) < (m : Int) := by omega
              go_upto_region 16 with fail
              have HN8 := Lib.hid (HN7.out.store i j2 ok2 (fun iq => iq < i) (fun k h _ => h) (fun qq h => by have h2 := HI9.out; (try simp only at h); omega))
              have HGR := Lib.hid (grown_two w7 g (i * 2) (.int .i64 j2) (.bool ok2))
              generalize hw8 : (w7.setCell ⟨g, i * 2, none⟩ (.int .i64 j2)).setCell ⟨g, i * 2 + 1, none⟩ (.bool ok2) = w8
              rw [hw8] at HN8 HGR
              have x7 := HGR.out.cell x7 (fun e => HGB.out (by cases e; rfl))
              have x8 := HGR.out.cell x8 (fun e => HGB.out (by cases e; rfl))
              clear hw8 HN7 HGR s1 s2 s3 s4 v1 v2 y1 y2
              obtain ⟨v1, v2, s1, s2, s3, s4⟩ := HN8.out.spot i ilt
              go_upto_region 18 with fail
              have HN9 := Lib.hid (HN8.out.store i o true (fun iq => iq < (i + 1)) HDN.out (fun qq _ => by obtain ⟨h1, h2⟩ := HX.out; (try simp only); rw [h2]; exact nr_take (by omega) HMN.out HG0.out (by omega) (by omega)))
              generalize hw9 : (w8.setCell ⟨g, i * 2, none⟩ (.int .i64 o)).setCell ⟨g, i * 2 + 1, none⟩ (.bool true) = w9
              rw [hw9] at HN9
              clear hw9 HN8 s1 s2 s3 s4 v1 v2 x7 x8
              go_wp2
              go_roundw
              case rel => exact ⟨i + 1, by omega, by go_num, Lib.hid ⟨_, HN9.out⟩⟩
              case measure => simp [intOf]; omega
          · have HN6 := Lib.hid (HN5.out.store i j true (fun iq => iq < (i + 1)) HDN.out (fun qq _ => by obtain ⟨h1, h2⟩ := HX.out; (try simp only); rw [h2]; exact (nr_free (F := ⟨P, N, co, cn, cc, some ⟨q, p, none⟩, on, oc, cs, os⟩) LC.out (.inr rfl) HR5.out HN5x.out (fun (k : Int) (k1 : x * (-1 : Int) < k * (-1 : Int)) (k2 : k * (-1 : Int) ≤ j * (-1 : Int)) => HFM.out k k1 (by omega)) (by omega) (by omega) hmcn)))
            generalize hw6 : (w5.setCell ⟨g, i * 2, none⟩ (.int .i64 j)).setCell ⟨g, i * 2 + 1, none⟩ (.bool true) = w6
            rw [hw6] at HN6
            clear hw6 HN5 s1 s2 s3 s4 v1 v2
            have e3 : w6.cell? ⟨b, 3, none⟩ = some (.slice (some ⟨q, p, none⟩) on oc) := HN6.out.boxc 3
            obtain ⟨q2, p2, e, hcc⟩ := (show OdAt w6 (some ⟨q, p, none⟩) on oc os from HN6.out.at0.odd).here (by omega)
            cases e
            obtain ⟨d1, ⟨so, m, d, d2, d3⟩, d4, d5⟩ := hcc i2 hil2
            have HLN := Lib.hid d3.len
            rw [← HGO.out] at HLN
            have HEO : (os[i2]'hil2).1 = o := by obtain ⟨h1, h2⟩ := HO1.out; exact h2
            rw [HEO] at d1
            clear hcc d3 d4 d5 HEO HGO
            clear hil2
            go_upto_region 14 with fail
            obtain ⟨bo, hbo⟩ : ∃ z, w6.heap.size = z := ⟨_, rfl⟩
            have x7 := (box_cells w6 (.int .i64 o) (.slice so m d) 52).1
            have x8 := (box_cells w6 (.int .i64 o) (.slice so m d) 52).2
            have HN7 := Lib.hid (HN6.out.keep ((Below.refl _ w6).alloc (Nat.le_refl _) (.cells #[.int .i64 o, .slice so m d] 52)))
            have HGB : Hid (g ≠ bo) := Lib.hid (by rw [← hbo]; obtain ⟨ps, v, L, k1, _⟩ := HN6.out.wk; have := HN6.out.g2; have := k1.sz; omega)
            generalize hw7 : w6.alloc (.cells #[.int .i64 o, .slice so m d] 52) = w7
            rw [hw7] at HN7 x7 x8
            rw [hbo] at x7 x8
            rw [hbo]
            clear hw7 hbo HN6 e3 d1 d2
            go_wp2
            go_roundw
            case rel => exact ⟨i + 1, by omega, by go_num, Lib.hid ⟨_, HN7.out⟩⟩
            case measure => simp [intOf]; omega
      · skip
        have HC5 := Lib.hid hc5
        clear hc5 hj2
        go_upto_region 12 with fail
        by_cases n0 : i = 0
        · have HN6 := Lib.hid (HN5.out.store i (0 : Int) false (fun iq => iq < (i + 1)) HDN.out (fun qq _ => by obtain ⟨h1, h2⟩ := HX.out; (try simp only); rw [h2]; exact (nr_end (F := ⟨P, N, co, cn, cc, some ⟨q, p, none⟩, on, oc, cs, os⟩) HC5.out (fun (k : Int) (k1 : x * (-1 : Int) < k * (-1 : Int)) => by obtain ⟨h1, h2⟩ := HX.out; have h3 := HI9.out; have h4 := LO.out; exact exc_low HOK.out.odd.inc (by omega) k (by have : i = 0 := (by omega); subst this; (try simp only); omega)))))
          generalize hw6 : (w5.setCell ⟨g, i * 2, none⟩ (.int .i64 0)).setCell ⟨g, i * 2 + 1, none⟩ (.bool false) = w6
          rw [hw6] at HN6
          clear hw6 HN5 s1 s2 s3 s4 v1 v2
          have n0i : ((i : Int) == 0) = true := by simp; omega
          go_wp2
          go_roundw
          case rel => exact ⟨i + 1, by omega, by go_num, Lib.hid ⟨_, HN6.out⟩⟩
          case measure => simp [intOf]; omega
        · have n0i : ((i : Int) == 0) = false := by simp; omega
          obtain ⟨i2, hi2⟩ : ∃ i2 : Nat, i = i2 + 1 := ⟨i - 1, by omega⟩
          have t10 : (i : Int) + (-1 : Int) = (i2 : Int) := by omega
          have i2lt : i2 < on := by omega
          have i20 : (0 : Int) ≤ (i2 : Int) := by omega
          have i21 : (i2 : Int) < (on : Int) := by omega
          have HI2 := Lib.hid hi2
          clear hi2
          have hil2 : i2 < os.length := by rw [LO.out]; exact i2lt
          obtain ⟨o, ho⟩ : ∃ o, (os[i2]'hil2).1 = o := ⟨_, rfl⟩
          have HO1 : Hid (∃ h : i2 < os.length, os[i2].1 = o) := Lib.hid ⟨hil2, ho⟩
          have o1 : -1099511627776 ≤ o := by rw [← ho]; exact (HOK.out.odd.good _ (List.getElem_mem hil2)).2.1
          have o2 : o ≤ 1099511627776 := by rw [← ho]; exact (HOK.out.odd.good _ (List.getElem_mem hil2)).2.2
          have hxo : o < x := by
            obtain ⟨h1, h2⟩ := HX.out
            have h3 := HI2.out
            rw [← h2, ← ho]
            exact inc_at HOK.out.odd.inc _ _ (by first | exact h1 | exact hil2) (by first | exact hil2 | exact h1) (by omega)
          have HFM : Hid (∀ k : Int, x * (-1 : Int) < k * (-1 : Int) → k * (-1 : Int) < o * (-1 : Int) → exc os k = none) := Lib.hid (fun k k1 k2 => by
            obtain ⟨h1, h2⟩ := HX.out
            obtain ⟨h3, h4⟩ := HO1.out
            have h5 := HI2.out
            subst h5
            exact exc_mid HOK.out.odd.inc _ (by omega) k (by simp only [h4]; omega) (by simp only [h2]; omega))
          have HGO : Hid (gr ⟨P, N, co, cn, cc, some ⟨q, p, none⟩, on, oc, cs, os⟩ o = (os[i2]'hil2).2) := Lib.hid (by rw [← ho]; exact gr_at (F := ⟨P, N, co, cn, cc, some ⟨q, p, none⟩, on, oc, cs, os⟩) HOK.out.odd.inc i2 hil2)
          clear ho
          have HN6 := Lib.hid (HN5.out.store i (0 : Int) false (fun iq => iq < i) (fun k h _ => h) (fun qq h => by have h2 := HI9.out; (try simp only at h); omega))
          generalize hw6 : (w5.setCell ⟨g, i * 2, none⟩ (.int .i64 0)).setCell ⟨g, i * 2 + 1, none⟩ (.bool false) = w6
          rw [hw6] at HN6
          clear hw6 HN5 s1 s2 s3 s4 v1 v2
          have e3 : w6.cell? ⟨b, 3, none⟩ = some (.slice (some ⟨q, p, none⟩) on oc) := HN6.out.boxc 3
          obtain ⟨q2, p2, e, hcc⟩ := (show OdAt w6 (some ⟨q, p, none⟩) on oc os from HN6.out.at0.odd).here (by omega)
          cases e
          obtain ⟨d1, ⟨so, m, d, d2, d3⟩, d4, d5⟩ := hcc i2 hil2
          have HLN := Lib.hid d3.len
          rw [← HGO.out] at HLN
          have HEO : (os[i2]'hil2).1 = o := by obtain ⟨h1, h2⟩ := HO1.out; exact h2
          rw [HEO] at d1
          clear hcc d3 d4 d5 HEO HGO
          clear hil2
          go_upto_region 14 with fail
          obtain ⟨bo, hbo⟩ : ∃ z, w6.heap.size = z := ⟨_, rfl⟩
          have x7 := (box_cells w6 (.int .i64 o) (.slice so m d) 52).1
          have x8 := (box_cells w6 (.int .i64 o) (.slice so m d) 52).2
          have HN7 := Lib.hid (HN6.out.keep ((Below.refl _ w6).alloc (Nat.le_refl _) (.cells #[.int .i64 o, .slice so m d] 52)))
          have HGB : Hid (g ≠ bo) := Lib.hid (by rw [← hbo]; obtain ⟨ps, v, L, k1, _⟩ := HN6.out.wk; have := HN6.out.g2; have := k1.sz; omega)
          generalize hw7 : w6.alloc (.cells #[.int .i64 o, .slice so m d] 52) = w7
          rw [hw7] at HN7 x7 x8
          rw [hbo] at x7 x8
          rw [hbo]
          clear hw7 hbo HN6 e3 d1 d2
          obtain ⟨j2, ok2, y1, y2, hN2⟩ := HN7.out.got i2 (by have := HI9.out; have := HI2.out; (try simp only); omega) (by have := LO.out; (try simp only); omega)
          have HN2 : Hid (Nr ⟨P, N, co, cn, cc, some ⟨q, p, none⟩, on, oc, cs, os⟩ o (-1 : Int) j2 ok2) := Lib.hid (by obtain ⟨h1, h2⟩ := HO1.out; rw [← h2]; exact hN2)
          clear hN2
          obtain ⟨v1, v2, s1, s2, s3, s4⟩ := HN7.out.spot i ilt
          have HMN : Hid (∀ k : Int, x * (-1 : Int) < k * (-1 : Int) → k * (-1 : Int) < o * (-1 : Int) → gr ⟨P, N, co, cn, cc, some ⟨q, p, none⟩, on, oc, cs, os⟩ k = []) := Lib.hid (mid_none (F := ⟨P, N, co, cn, cc, some ⟨q, p, none⟩, on, oc, cs, os⟩) LC.out (.inr rfl) HFM.out (.inl HC5.out))
          by_cases hm0 : m = 0
          · have HG0 : Hid (gr ⟨P, N, co, cn, cc, some ⟨q, p, none⟩, on, oc, cs, os⟩ o = []) := Lib.hid (List.eq_nil_of_length_eq_zero (by rw [HLN.out]; exact hm0))
            have m0 : ¬ (0 : Int) < (m : Int) := by omega
            go_upto_region 16 with fail
            have HN8 := Lib.hid (HN7.out.store i j2 ok2 (fun iq => iq < (i + 1)) HDN.out (fun qq _ => by obtain ⟨h1, h2⟩ := HX.out; (try simp only); rw [h2]; exact nr_pass (.inr rfl) (by omega) HMN.out HG0.out HN2.out))
            have HGR := Lib.hid (grown_two w7 g (i * 2) (.int .i64 j2) (.bool ok2))
            generalize hw8 : (w7.setCell ⟨g, i * 2, none⟩ (.int .i64 j2)).setCell ⟨g, i * 2 + 1, none⟩ (.bool ok2) = w8
            rw [hw8] at HN8 HGR
            have x8 := HGR.out.cell x8 (fun e => HGB.out (by cases e; rfl))
            clear hw8 HN7 s1 s2 s3 s4 v1 v2 x7 y1 y2
            go_wp2
            go_roundw
            case rel => exact ⟨i + 1, by omega, by go_num, Lib.hid ⟨_, HN8.out⟩⟩
            case measure => simp [intOf]; omega
          · have HG0 : Hid (gr ⟨P, N, co, cn, cc, some ⟨q, p, none⟩, on, oc, cs, os⟩ o ≠ []) := Lib.hid (fun h => by have h2 := HLN.out; rw [h] at h2; exact hm0 h2.symm)
            have m0 : (0 : Int) < (m : Int) := by omega
            go_upto_region 16 with fail
            have HN8 := Lib.hid (HN7.out.store i j2 ok2 (fun iq => iq < i) (fun k h _ => h) (fun qq h => by have h2 := HI9.out; (try simp only at h); omega))
            have HGR := Lib.hid (grown_two w7 g (i * 2) (.int .i64 j2) (.bool ok2))
            generalize hw8 : (w7.setCell ⟨g, i * 2, none⟩ (.int .i64 j2)).setCell ⟨g, i * 2 + 1, none⟩ (.bool ok2) = w8
            rw [hw8] at HN8 HGR
            have x7 := HGR.out.cell x7 (fun e => HGB.out (by cases e; rfl))
            have x8 := HGR.out.cell x8 (fun e => HGB.out (by cases e; rfl))
            clear hw8 HN7 HGR s1 s2 s3 s4 v1 v2 y1 y2
            obtain ⟨v1, v2, s1, s2, s3, s4⟩ := HN8.out.spot i ilt
            go_upto_region 18 with fail
            have HN9 := Lib.hid (HN8.out.store i o true (fun iq => iq < (i + 1)) HDN.out (fun qq _ => by obtain ⟨h1, h2⟩ := HX.out; (try simp only); rw [h2]; exact nr_take (by omega) HMN.out HG0.out (by omega) (by omega)))
            generalize hw9 : (w8.setCell ⟨g, i * 2, none⟩ (.int .i64 o)).setCell ⟨g, i * 2 + 1, none⟩ (.bool true) = w9
            rw [hw9] at HN9
            clear hw9 HN8 s1 s2 s3 s4 v1 v2 x7 x8
            go_wp2
            go_roundw
            case rel => exact ⟨i + 1, by omega, by go_num, Lib.hid ⟨_, HN9.out⟩⟩
            case measure => simp [intOf]; omega
    · obtain rfl : on = n := by omega
      have HE : Hid (Below w.heap.size w wr) := Lib.hid (by obtain ⟨ps, v, L, k1, _⟩ := HN.out.wk; exact k1.bw)
      have HR : Hid (∃ xs, wr.ownsRow w.heap.size 91 2 (.slice (some ⟨g, 0, none⟩) on on) on xs ∧ ∀ i (h : i < os.length), ∃ j ok, xs[i * 2]? = some (.int .i64 j) ∧ xs[i * 2 + 1]? = some (.bool ok) ∧ Nr ⟨P, N, co, cn, cc, oo, on, oc, cs, os⟩ os[i].1 (-1 : Int) j ok) := Lib.hid (by
        obtain ⟨xs, h1, h2⟩ := HN.out.row
        exact ⟨xs, h1, fun i h => h2 i (by have := LO.out; (try simp only); omega) h⟩)
      clear HN
      go_wp2
      go_returns
      exact ⟨g, rfl, HE, HR⟩
end Go.Proofs.Ytmjapbjjfhmohaa
