/- G22d in one. -/
import Derived.Test.YtmjapbjjfhmohaaKl
namespace Go.Proofs.Ytmjapbjjfhmohaa
set_option linter.unusedVariables false
set_option linter.unusedSimpArgs false
open Go.ChangeShapes Go.WideShapes Go.ChangeAt Go.RowKit
set_option maxRecDepth 8000 in
set_option maxHeartbeats 4000000 in
theorem near_dn (F : Fv) (i : Int) (w : World) (hF : F.At w) (ok : F.Ok) (hi1 : -2199023255552 ≤ i) (hi2 : i ≤ 2199023255552) :
    Calls Try.prog 70 #[F.v, .int .i64 i, .int .i64 (-1)] w fun e w' => NearOut F i (-1 : Int) e ∧ Hid (Below w.heap.size w w') := by
  have hmon := ok.on
  have hmcn := ok.cn
  have HOK := Lib.hid ok
  have HF0 := Lib.hid hF
  have HOD := Lib.hid (fun W h => odd_any F i W h ok.odd.inc (Nat.le_trans ok.on (by omega)))
  clear ok
  obtain ⟨P, N, co, cn, cc, oo, on, oc, cs, os⟩ := F
  have LC : Hid (cs.length = cn) := Lib.hid hF.core.len
  have LO : Hid (os.length = on) := Lib.hid hF.odd.len
  have hmc : cn ≤ 9223372036854775807 := Nat.le_trans hF.core.le hF.core.top
  have hmo : on ≤ 9223372036854775807 := Nat.le_trans hF.odd.le hF.odd.top
  obtain ⟨b, hb⟩ : ∃ b, w.heap.size = b := ⟨_, rfl⟩
  obtain ⟨wb, hwb⟩ : ∃ wb, w.alloc (.cells #[.int .i64 P, .int .i64 N, .slice co cn cc, .slice oo on oc] 25) = wb := ⟨_, rfl⟩
  have HBB : Hid (Fbox ⟨P, N, co, cn, cc, oo, on, oc, cs, os⟩ w wb b) := Lib.hid (by rw [← hwb, ← hb]; exact fbox_new hF)
  clear hF
  show Calls Try.prog 70 #[.agg #[.int .i64 P, .int .i64 N, .slice co cn cc, .slice oo on oc], .int .i64 i, .int .i64 (-1)] w _
  go_enter Try.func70, Try.ntmps70
  go_upto_region 1 with fail
  have HBX : Hid (wb.heap[b]? = some (.cells #[.int .i64 P, .int .i64 N, .slice co cn cc, .slice oo on oc] 25 (0, 0))) := Lib.hid (by rw [← hwb, ← hb]; show (w.heap.push _)[w.heap.size]? = _; simp)
  have HBS : Hid (wb.heap.size = b + 1) := Lib.hid (by rw [← hwb, ← hb]; simp)
  have HBL : Hid (w.heap.size = b) := Lib.hid hb
  clear hwb hb
  have e0 : wb.cell? ⟨b, 0, none⟩ = some (.int .i64 P) := HBB.out.c0
  have e1 : wb.cell? ⟨b, 1, none⟩ = some (.int .i64 N) := HBB.out.c1
  have e2 : wb.cell? ⟨b, 2, none⟩ = some (.slice co cn cc) := HBB.out.c2
  have e3 : wb.cell? ⟨b, 3, none⟩ = some (.slice oo on oc) := HBB.out.c3
  have hmon : on ≤ 1000000 := hmon
  have hmcn : cn ≤ 1000000 := hmcn
  have HOD : Hid (∀ W, Fv.At ⟨P, N, co, cn, cc, oo, on, oc, cs, os⟩ W → Calls Try.prog 55 #[.agg #[.int .i64 P, .int .i64 N, .slice co cn cc, .slice oo on oc], .int .i64 i] W fun e w' => ∃ (n : Nat) (f : Bool), n ≤ on ∧ e = .returned (.tuple #[.int .i64 n, .bool f]) ∧ Hid (OIs os i n) ∧ Hid (f = true ↔ ∃ h : n < os.length, os[n].1 = i) ∧ Hid (Below W.heap.size W w')) := HOD
  go_wp2_with fail
  (with_reducible refine (HOD.out _ HBB.out.at_).mono ?_)
  rintro e w1 ⟨n0, f, hn0, rfl, HI, HFd, q⟩
  have HBX1 : Hid (w1.heap[b]? = some (.cells #[.int .i64 P, .int .i64 N, .slice co cn cc, .slice oo on oc] 25 (0, 0))) := Lib.hid ((q.out.block b (by have := HBS.out; omega)).trans HBX.out)
  have HBB := Lib.hid (HBB.out.keep q.out)
  have HBS1 : Hid (b < w1.heap.size) := Lib.hid (by have := HBS.out; have := q.out.size; omega)
  clear q e0 e1 e2 e3 HOD HBX HBS
  have e0 : w1.cell? ⟨b, 0, none⟩ = some (.int .i64 P) := HBB.out.c0
  have e1 : w1.cell? ⟨b, 1, none⟩ = some (.int .i64 N) := HBB.out.c1
  have e2 : w1.cell? ⟨b, 2, none⟩ = some (.slice co cn cc) := HBB.out.c2
  have e3 : w1.cell? ⟨b, 3, none⟩ = some (.slice oo on oc) := HBB.out.c3
  obtain ⟨n, HN9⟩ : ∃ n : Int, Hid (-1 ≤ n ∧ n ≤ (on : Int) ∧ n = (n0 : Int) - 1 ∧ ∀ m (h : m < os.length), n * (-1 : Int) ≤ (m : Int) * (-1 : Int) ↔ i * (-1 : Int) < os[m].1 * (-1 : Int)) := by
    refine ⟨(n0 : Int) - 1, Lib.hid ⟨by omega, by omega, rfl, fun m hm => ?_⟩⟩
    constructor
    · intro z
      have := HI.out.low m hm (by omega); omega
    · intro z
      by_cases q : n0 ≤ m
      · have := HI.out.high m hm q; omega
      · omega
  have t9 : (n0 : Int) - 1 = n := HN9.out.2.2.1.symm
  go_upto_region 7 with fail
  obtain ⟨bw, hbw⟩ : ∃ q, w1.heap.size = q := ⟨_, rfl⟩
  obtain ⟨w2, hw2⟩ : ∃ q, w1.alloc (.cells #[.int .i64 P, .int .i64 N, .slice co cn cc, .slice oo on oc, .int .i64 i, .int .i64 (-1), .int .i64 0, .slice none 0 0] 112) = q := ⟨_, rfl⟩
  rw [hw2, hbw]
  have HB2 : Hid (Below w1.heap.size w1 w2) := Lib.hid (by rw [← hw2]; exact (Below.refl _ w1).alloc (Nat.le_refl _) _)
  have HW2 : Hid (w2.heap[bw]? = some (.cells #[.int .i64 P, .int .i64 N, .slice co cn cc, .slice oo on oc, .int .i64 i, .int .i64 (-1), .int .i64 0, .slice none 0 0] 112 (0, 0))) := Lib.hid (by rw [← hw2, ← hbw]; show (w1.heap.push _)[w1.heap.size]? = _; simp)
  have HS2 : Hid (w2.heap.size = bw + 1) := Lib.hid (by rw [← hw2, ← hbw]; simp)
  have HNE : Hid (Ne ⟨P, N, co, cn, cc, oo, on, oc, cs, os⟩ w w2 (bw + 1) bw b i (-1 : Int)) := Lib.hid ⟨⟨0, .slice none 0 0, [], ⟨HF0.out, HBB.out.bw.trans (HB2.out.mono HBB.out.bw.size), by rw [← hbw]; exact HBB.out.bw.size, by omega, by rw [HS2.out]; exact Nat.le_refl _, HW2.out, World.ownsRow_nil _ _ _ _⟩, .inl rfl, by omega, by show (0 : Int) ≤ 2 * (cn : Int); omega⟩, (HB2.out.block b HBS1.out).trans HBX1.out, by have := HBS1.out; omega, by have := HBS1.out; omega⟩
  clear hw2 hbw HB2 HW2 HS2 e0 e1 e2 e3 HBX1 HBB HF0 HBS1 HBL
  have HNX := Lib.hid (HNE.out.next (.inr rfl) hmcn (by omega) (by omega))
  clear HNE
  go_wp2_with fail
  (with_reducible refine HNX.out.mono ?_)
  rintro e w5 ⟨a2, hx3, HN5⟩
  clear HNX
  have HREL : Hid (∃ j ok, e = .returned (.tuple #[.int .i64 j, .bool ok]) ∧ NearRel ⟨P, N, co, cn, cc, oo, on, oc, cs, os⟩ i (-1 : Int) (-1) ((on : Int) - 1) w (bw + 1) bw b (.int .i64 n) (.int .i64 j) (.bool ok) w5) := Lib.hid (by
    have h9 := HN9.out
    rcases hx3 with ⟨j, rfl, hj2, hn5, hr5⟩ | ⟨rfl, hj2, hc5⟩
    · have h1 := (nxt_mid (.inr rfl) hn5).2.2
      have h2 : N = (cn : Int) := hr5.2
      simp only at h1
      exact ⟨j, true, rfl, n, j, true, rfl, rfl, rfl, by omega, by omega, Lib.hid (ns_start (F := ⟨P, N, co, cn, cc, oo, on, oc, cs, os⟩) LC.out (.inr rfl) (.inl ⟨rfl, hn5, hr5⟩) h9.2.2.2 (by omega) (by omega)), Lib.hid ⟨a2, fun _ => hj2, HN5.out⟩⟩
    · exact ⟨0, false, rfl, n, 0, false, rfl, rfl, rfl, by omega, by omega, Lib.hid (ns_start (F := ⟨P, N, co, cn, cc, oo, on, oc, cs, os⟩) LC.out (.inr rfl) (.inr ⟨rfl, hc5⟩) h9.2.2.2 (by omega) (by omega)), Lib.hid ⟨a2, fun z => (by cases z), HN5.out⟩⟩)
  clear hx3 HN5 HN9
  obtain ⟨j, ok, rfl, hrel0⟩ := HREL.out
  have HREL := Lib.hid hrel0
  clear hrel0
  go_wp2
  go_loopw [8, 11, 12] (fun nn jj kk wr => NearRel ⟨P, N, co, cn, cc, oo, on, oc, cs, os⟩ i (-1 : Int) (-1) ((on : Int) - 1) w (bw + 1) bw b nn jj kk wr) (fun nn _ _ _ => (intOf nn + 1).toNat)
  case atStart => exact HREL.out
  case round =>
    obtain ⟨n, j, ok, rfl, rfl, rfl, n1, n2, HNS, HNE⟩ := hrel
    clear HREL
    have HJ : Hid (-1152921504606846976 ≤ j ∧ j ≤ 1152921504606846976) := Lib.hid ⟨HNS.out.low, HNS.out.high⟩
    have hj1 := HJ.out.1
    have hj2 := HJ.out.2
    obtain ⟨a, ha, hne⟩ := HNE.out
    have HA := Lib.hid ha
    have HNE := Lib.hid hne
    clear ha hne
    have e3 : wr.cell? ⟨b, 3, none⟩ = some (.slice oo on oc) := HNE.out.boxc 3
    by_cases hin : 0 ≤ n
    · obtain ⟨m, rfl⟩ : ∃ m : Nat, n = (m : Int) := ⟨n.toNat, by omega⟩
      have mlt : m < on := by omega
      obtain ⟨qa, p, e, hcc⟩ := (show OdAt wr oo on oc os from HNE.out.at0.odd).here (by omega)
      cases e
      have hml : m < os.length := by rw [LO.out]; exact mlt
      obtain ⟨d1, ⟨so, k, d, d2, d3⟩, d4, d5⟩ := hcc m hml
      have HLK := Lib.hid d3.len
      obtain ⟨o, ho⟩ : ∃ o, (os[m]'hml).1 = o := ⟨_, rfl⟩
      have hrg := (HOK.out.odd.good _ (List.getElem_mem hml)).2
      have HSI : Hid (i * (-1 : Int) < o * (-1 : Int)) := Lib.hid (by rw [← ho]; exact HNS.out.side m hml (Int.le_refl _))
      rw [ho] at d1 d4 d5
      have hrg2 : -1099511627776 ≤ o ∧ o ≤ 1099511627776 := by rw [← ho]; exact hrg
      clear hrg
      have HO1 : Hid (∃ h : m < os.length, os[m].1 = o ∧ os[m].2.length = k) := Lib.hid ⟨hml, ho, HLK.out⟩
      obtain ⟨rg1, rg2⟩ := hrg2
      have hio : o < i := by have := HSI.out; omega
      have i0 : (0 : Int) ≤ (m : Int) := by omega
      have i1 : (m : Int) < (on : Int) := by omega
      clear hcc d3 ho HLK HSI
      clear hml
      go_upto_region 11 with fail
      obtain ⟨bo, hbo⟩ : ∃ z, wr.heap.size = z := ⟨_, rfl⟩
      have x7 := (box_cells wr (.int .i64 o) (.slice so k d) 52).1
      have x8 := (box_cells wr (.int .i64 o) (.slice so k d) 52).2
      have HN7 := Lib.hid (HNE.out.keep ((Below.refl _ wr).alloc (Nat.le_refl _) (.cells #[.int .i64 o, .slice so k d] 52)))
      generalize hw7 : wr.alloc (.cells #[.int .i64 o, .slice so k d] 52) = w7
      rw [hw7] at HN7 x7 x8
      rw [hbo] at x7 x8
      rw [hbo]
      clear hw7 hbo HNE e3 d1 d2
      cases ok
      · by_cases hk : k = 0
        · skip
          have HS9 : Hid (NS ⟨P, N, co, cn, cc, some ⟨qa, p, none⟩, on, oc, cs, os⟩ i (-1 : Int) ((m : Int) + (-1 : Int)) j false) := Lib.hid (by
            obtain ⟨h1, h2, h3⟩ := HO1.out
            exact ns_skip (F := ⟨P, N, co, cn, cc, some ⟨qa, p, none⟩, on, oc, cs, os⟩) HOK.out.odd.inc (.inr rfl) HNS.out h1 (List.eq_nil_of_length_eq_zero (by rw [h3]; exact hk)) (fun z => by cases z))
          have k0 : ¬ (0 : Int) < (k : Int) := by omega
          clear HNS HO1
          go_wp2
          go_roundw
          case rel => exact ⟨(m : Int) + (-1 : Int), j, false, by go_num, rfl, rfl, by omega, by omega, HS9, Lib.hid ⟨_, HA.out, HN7.out⟩⟩
          case measure => simp [intOf]; omega
        · skip
          have HT : Hid (Nr ⟨P, N, co, cn, cc, some ⟨qa, p, none⟩, on, oc, cs, os⟩ i (-1 : Int) o true) := Lib.hid (by
            obtain ⟨h1, h2, h3⟩ := HO1.out
            subst h2
            exact ns_take (F := ⟨P, N, co, cn, cc, some ⟨qa, p, none⟩, on, oc, cs, os⟩) HOK.out.odd.inc (.inr rfl) HNS.out h1 (fun z => by rw [z] at h3; simp at h3; omega) (fun z => by cases z) (show -1152921504606846976 ≤ os[m].1 by omega) (show os[m].1 ≤ 1152921504606846976 by omega))
          have k0 : (0 : Int) < (k : Int) := by omega
          have HBF := Lib.hid HN7.out.bw'
          clear HNS HO1
          go_wp2
          go_returns
          exact ⟨⟨o, true, rfl, HT.out⟩, HBF⟩
      · by_cases hbk : o < j
        · have HT : Hid (Nr ⟨P, N, co, cn, cc, some ⟨qa, p, none⟩, on, oc, cs, os⟩ i (-1 : Int) j true) := Lib.hid (ns_end (F := ⟨P, N, co, cn, cc, some ⟨qa, p, none⟩, on, oc, cs, os⟩) HOK.out.odd.inc (.inr rfl) HNS.out (fun m2 h4 h5 => ⟨rfl, by
            obtain ⟨h1, h2, h3⟩ := HO1.out
            by_cases z : (m : Int) * (-1 : Int) < (m2 : Int) * (-1 : Int)
            · have := os_lt HOK.out.odd.inc (.inr rfl) h1 h4 z
              rw [h2] at this
              (try simp only at *); omega
            · have : m2 = m := by omega
              subst this
              (try simp only); rw [h2]; omega⟩))
          have HBF := Lib.hid HN7.out.bw'
          clear HNS HO1
          go_wp2
          go_returns
          exact ⟨⟨j, true, rfl, HT.out⟩, HBF⟩
        · by_cases hk : k = 0
          · by_cases hoj : o = j
            · subst hoj
              have haj := HA.out rfl
              subst haj
              have HNX := Lib.hid (HN7.out.next (.inr rfl) hmcn (by omega) (by omega))
              have k0 : ¬ (0 : Int) < (k : Int) := by omega
              clear HN7
              go_wp2_with fail
              (with_reducible refine HNX.out.mono ?_)
              rintro e w8 ⟨a3, hx3, HN8⟩
              clear HNX
              obtain ⟨h1, h2, h3⟩ := HO1.out
              rcases hx3 with ⟨j2, rfl, hj4, hn5, hr5⟩ | ⟨rfl, hj4, hc5⟩
              · have h6 := (nxt_mid (.inr rfl) hn5).2.2
                have h7 : N = (cn : Int) := hr5.2
                simp only at h6
                have HS9 := Lib.hid (ns_next (F := ⟨P, N, co, cn, cc, some ⟨qa, p, none⟩, on, oc, cs, os⟩) LC.out HOK.out.odd.inc (.inr rfl) HNS.out h1 (List.eq_nil_of_length_eq_zero (by rw [h3]; exact hk)) h2 (.inl ⟨rfl, hn5, hr5⟩) (by omega) (by omega))
                clear HNS HO1 h2 h3 h6 h7 hn5 hr5
                clear h1
                go_wp2
                go_roundw
                case rel => exact ⟨(m : Int) + (-1 : Int), j2, true, by go_num, rfl, rfl, by omega, by omega, HS9, Lib.hid ⟨_, (fun _ => hj4), HN8.out⟩⟩
                case measure => simp [intOf]; omega
              · have HS9 := Lib.hid (ns_next (F := ⟨P, N, co, cn, cc, some ⟨qa, p, none⟩, on, oc, cs, os⟩) (j2 := 0) LC.out HOK.out.odd.inc (.inr rfl) HNS.out h1 (List.eq_nil_of_length_eq_zero (by rw [h3]; exact hk)) h2 (.inr ⟨rfl, hc5⟩) (by omega) (by omega))
                clear HNS HO1 h2 h3 hc5
                clear h1
                go_wp2
                go_roundw
                case rel => exact ⟨(m : Int) + (-1 : Int), 0, false, by go_num, rfl, rfl, by omega, by omega, HS9, Lib.hid ⟨_, (fun z => by cases z), HN8.out⟩⟩
                case measure => simp [intOf]; omega
            · skip
              have HS9 : Hid (NS ⟨P, N, co, cn, cc, some ⟨qa, p, none⟩, on, oc, cs, os⟩ i (-1 : Int) ((m : Int) + (-1 : Int)) j true) := Lib.hid (by
                obtain ⟨h1, h2, h3⟩ := HO1.out
                exact ns_skip (F := ⟨P, N, co, cn, cc, some ⟨qa, p, none⟩, on, oc, cs, os⟩) HOK.out.odd.inc (.inr rfl) HNS.out h1 (List.eq_nil_of_length_eq_zero (by rw [h3]; exact hk)) (fun _ => by rw [h2]; exact hoj))
              have k0 : ¬ (0 : Int) < (k : Int) := by omega
              have t5 : (o == j) = false := by simp; exact hoj
              clear HNS HO1
              go_wp2
              go_roundw
              case rel => exact ⟨(m : Int) + (-1 : Int), j, true, by go_num, rfl, rfl, by omega, by omega, HS9, Lib.hid ⟨_, HA.out, HN7.out⟩⟩
              case measure => simp [intOf]; omega
          · skip
            have HT : Hid (Nr ⟨P, N, co, cn, cc, some ⟨qa, p, none⟩, on, oc, cs, os⟩ i (-1 : Int) o true) := Lib.hid (by
              obtain ⟨h1, h2, h3⟩ := HO1.out
              subst h2
              exact ns_take (F := ⟨P, N, co, cn, cc, some ⟨qa, p, none⟩, on, oc, cs, os⟩) HOK.out.odd.inc (.inr rfl) HNS.out h1 (fun z => by rw [z] at h3; simp at h3; omega) (fun _ => (show os[m].1 * (-1 : Int) ≤ j * (-1 : Int) by omega)) (show -1152921504606846976 ≤ os[m].1 by omega) (show os[m].1 ≤ 1152921504606846976 by omega))
            have k0 : (0 : Int) < (k : Int) := by omega
            have HBF := Lib.hid HN7.out.bw'
            clear HNS HO1
            go_wp2
            go_returns
            exact ⟨⟨o, true, rfl, HT.out⟩, HBF⟩
    · have HT : Hid (Nr ⟨P, N, co, cn, cc, oo, on, oc, cs, os⟩ i (-1 : Int) j ok) := Lib.hid (ns_end (F := ⟨P, N, co, cn, cc, oo, on, oc, cs, os⟩) HOK.out.odd.inc (.inr rfl) HNS.out (fun m2 h4 h5 => by have := LO.out; (try simp only at h4); omega))
      have HBF := Lib.hid HNE.out.bw'
      clear HNS HA HNE
      go_wp2
      go_returns
      exact ⟨⟨j, ok, rfl, HT.out⟩, HBF⟩
end Go.Proofs.Ytmjapbjjfhmohaa
