/- Contracts: Near, Few. -/
import Derived.Test.YtaobhhgalkkmaaaV3
namespace Go.Proofs.Ytaobhhgalkkmaaa
set_option linter.unusedVariables false
set_option linter.unusedSimpArgs false
open Go.ChangeShapes Go.WideShapes Go.ChangeAt Go.RowKit
def NrOut (F : Fv) (e : Ending) : Prop := ∃ r : Bool, e = .returned (.bool r) ∧ (r = true → F.Small ∧ F.Rt)
def FewN (n : Nv) : Prop := n.fn ≤ 4 ∧ n.kn ≤ 8 ∧ n.vars ≤ 8 ∧ (∀ F ∈ n.fs, F.Small) ∧ RtN n
def FewOut (n : Nv) (e : Ending) : Prop := ∃ r : Bool, e = .returned (.bool r) ∧ (r = true → FewN n)
set_option maxRecDepth 8000 in
set_option maxHeartbeats 4000000 in
theorem near_any (F : Fv) (w : World) (hF : F.At w) : Calls Try.prog 26 #[F.v] w fun e w' => NrOut F e ∧ Hid (Below w.heap.size w w') := by
  obtain ⟨s1, hs1⟩ : ∃ r : Bool, r = true ↔ F.Small := by classical exact ⟨decide _, decide_eq_true_iff⟩
  obtain ⟨s2, hs2⟩ : ∃ r : Bool, r = true ↔ F.Rt := by classical exact ⟨decide _, decide_eq_true_iff⟩
  have HS1 := Lib.hid hs1
  have HS2 := Lib.hid hs2
  have HC1 := Lib.hid (fun W (h : F.At W) => small_any F W h s1 hs1)
  have HC2 := Lib.hid (fun (q : s1 = true) W (h : F.At W) => right_small F W h (hs1.1 q) s2 hs2)
  clear hs1 hs2
  obtain ⟨P, N, co, cn, cc, oo, on, oc, cs, os⟩ := F
  have LC : Hid (cs.length = cn) := Lib.hid hF.core.len
  have LO : Hid (os.length = on) := Lib.hid hF.odd.len
  have hmc : cn ≤ 9223372036854775807 := Nat.le_trans hF.core.le hF.core.top
  have hmo : on ≤ 9223372036854775807 := Nat.le_trans hF.odd.le hF.odd.top
  obtain ⟨b, hb⟩ : ∃ b, w.heap.size = b := ⟨_, rfl⟩
  obtain ⟨wb, hwb⟩ : ∃ wb, w.alloc (.cells #[.int .i64 P, .int .i64 N, .slice co cn cc, .slice oo on oc] 25) = wb := ⟨_, rfl⟩
  have HBB : Hid (Fbox ⟨P, N, co, cn, cc, oo, on, oc, cs, os⟩ w wb b) := Lib.hid (by rw [← hwb, ← hb]; exact fbox_new hF)
  clear hF
  show Calls Try.prog 26 #[.agg #[.int .i64 P, .int .i64 N, .slice co cn cc, .slice oo on oc]] w _
  go_enter Try.func26, Try.ntmps26
  go_upto_region 1 with fail
  clear hwb hb
  have HS1 : Hid (s1 = true ↔ Fv.Small ⟨P, N, co, cn, cc, oo, on, oc, cs, os⟩) := HS1
  have HS2 : Hid (s2 = true ↔ Fv.Rt ⟨P, N, co, cn, cc, oo, on, oc, cs, os⟩) := HS2
  have HLN : Hid ((Fv.cs ⟨P, N, co, cn, cc, oo, on, oc, cs, os⟩).length = Fv.cn ⟨P, N, co, cn, cc, oo, on, oc, cs, os⟩) := Lib.hid LC.out
  have HC1 : Hid (∀ W, Fv.At ⟨P, N, co, cn, cc, oo, on, oc, cs, os⟩ W → Calls Try.prog 6 #[.agg #[.int .i64 P, .int .i64 N, .slice co cn cc, .slice oo on oc]] W fun e w' => e = .returned (.bool s1) ∧ Below W.heap.size W w') := HC1
  have HC2 : Hid (s1 = true → ∀ W, Fv.At ⟨P, N, co, cn, cc, oo, on, oc, cs, os⟩ W → Calls Try.prog 7 #[.agg #[.int .i64 P, .int .i64 N, .slice co cn cc, .slice oo on oc]] W fun e w' => e = .returned (.int .i64 (rcode s2)) ∧ Below W.heap.size W w') := HC2
  have e0 : wb.cell? ⟨b, 0, none⟩ = some (.int .i64 P) := HBB.out.c0
  have e1 : wb.cell? ⟨b, 1, none⟩ = some (.int .i64 N) := HBB.out.c1
  have e2 : wb.cell? ⟨b, 2, none⟩ = some (.slice co cn cc) := HBB.out.c2
  have e3 : wb.cell? ⟨b, 3, none⟩ = some (.slice oo on oc) := HBB.out.c3
  go_wp2_with fail
  (with_reducible refine (HC1.out _ HBB.out.at_).mono ?_)
  rintro e w1 ⟨rfl, q⟩
  have HBB := Lib.hid (HBB.out.keep q)
  clear q e0 e1 e2 e3 HC1
  cases s1
  · clear HC2 HS1 HS2
    go_wp2
    go_returns
    exact ⟨⟨false, rfl, fun z => by cases z⟩, Lib.hid HBB.out.bw⟩
  · have HC3 := Lib.hid (HC2.out (by first | rfl | trivial))
    clear HC2
    have e0 : w1.cell? ⟨b, 0, none⟩ = some (.int .i64 P) := HBB.out.c0
    have e1 : w1.cell? ⟨b, 1, none⟩ = some (.int .i64 N) := HBB.out.c1
    have e2 : w1.cell? ⟨b, 2, none⟩ = some (.slice co cn cc) := HBB.out.c2
    have e3 : w1.cell? ⟨b, 3, none⟩ = some (.slice oo on oc) := HBB.out.c3
    go_wp2_with fail
    (with_reducible refine (HC3.out _ HBB.out.at_).mono ?_)
    rintro e w2 ⟨rfl, q⟩
    have HBB := Lib.hid (HBB.out.keep q)
    clear q e0 e1 e2 e3 HC3
    cases s2
    · have tz : rcode false = 50 := rfl
      clear HS1 HS2
      go_wp2
      go_returns
      exact ⟨⟨false, rfl, fun z => by cases z⟩, Lib.hid HBB.out.bw⟩
    · have tz : rcode true = 0 := rfl
      have HOK : Hid (Fv.Small ⟨P, N, co, cn, cc, oo, on, oc, cs, os⟩ ∧ Fv.Rt ⟨P, N, co, cn, cc, oo, on, oc, cs, os⟩) := Lib.hid ⟨HS1.out.1 (by first | rfl | trivial), HS2.out.1 (by first | rfl | trivial)⟩
      clear HS1 HS2
      have e0 : w2.cell? ⟨b, 0, none⟩ = some (.int .i64 P) := HBB.out.c0
      have e1 : w2.cell? ⟨b, 1, none⟩ = some (.int .i64 N) := HBB.out.c1
      have e2 : w2.cell? ⟨b, 2, none⟩ = some (.slice co cn cc) := HBB.out.c2
      have e3 : w2.cell? ⟨b, 3, none⟩ = some (.slice oo on oc) := HBB.out.c3
      by_cases hp : 200 < P
      · have t1 : decide (200 < P) = true := by simp; omega
        go_wp2
        go_returns
        exact ⟨⟨false, rfl, fun z => by cases z⟩, Lib.hid HBB.out.bw⟩
      · have t1 : decide (200 < P) = false := by simp; omega
        go_wp2
        clear e0 e1 e2 e3 t1 tz
        go_loopw [25] (fun ii wr => ∃ i : Nat, i ≤ cn ∧ ii = .int .i64 i ∧ Hid (Below w2.heap.size w2 wr)) (fun ii _ => cn - (intOf ii).toNat)
        case atStart => exact ⟨0, Nat.zero_le _, rfl, Lib.hid (Below.refl _ _)⟩
        case round =>
          obtain ⟨i, hi, rfl, HW⟩ := hrel
          by_cases ilt : i < cn
          · have hil : i < cs.length := by rw [LC.out]; exact ilt
            obtain ⟨g, p, e1, hc⟩ := (HBB.out.at_.core.keep HW.out).here (show 0 < cn by omega)
            obtain rfl : co = some ⟨g, p, none⟩ := e1
            obtain ⟨o, k, d, hcell, hs⟩ := hc i hil
            have CH := Lib.hid (hull_any o k d cs[i] wr hs)
            have i0 : (0 : Int) ≤ (i : Int) := by omega
            have i1 : (i : Int) < (cn : Int) := by omega
            obtain ⟨x, hx⟩ : ∃ x, hullA cs[i] = x := ⟨_, rfl⟩
            obtain ⟨y, hy⟩ : ∃ y, hullB cs[i] = y := ⟨_, rfl⟩
            obtain ⟨sb, hsb⟩ : ∃ s, decide (0 < k) = s := ⟨_, rfl⟩
            rw [hx, hy, hsb] at CH
            clear hc hs hx hy hsb hil
            go_wp2_with fail
            (with_reducible refine CH.out.mono ?_)
            rintro e w3 ⟨rfl, q⟩
            have HW := Lib.hid (HW.out.trans (q.mono HW.out.size))
            clear q CH hcell
            go_upto_region 7 with fail
            obtain ⟨w4, hw4⟩ : ∃ W, w3.alloc (.cells #[.int .i64 x, .int .i64 y] 65) = W := ⟨_, rfl⟩
            obtain ⟨b4, hb4⟩ : ∃ s, w3.heap.size = s := ⟨_, rfl⟩
            have KA : Below w3.heap.size w3 w4 := by rw [← hw4]; exact (Below.refl _ _).alloc (Nat.le_refl _) _
            have H4 : Hid (w4.heap[b4]? = some (.cells #[.int .i64 x, .int .i64 y] 65 (0, 0))) := Lib.hid (by rw [← hw4]; exact heap_at hb4)
            have HW := Lib.hid (HW.out.trans (KA.mono HW.out.size))
            rw [hw4, hb4]
            clear hw4 hb4 KA
            have f0 : w4.cell? ⟨b4, 0, none⟩ = some (.int .i64 x) := cell_block H4.out 0
            have f1 : w4.cell? ⟨b4, 1, none⟩ = some (.int .i64 y) := cell_block H4.out 1
            cases sb
            · go_wp2
              go_roundw
              case rel => exact ⟨i + 1, by omega, by go_num, HW⟩
              case measure => simp [intOf]; omega
            · by_cases z1 : x < -100
              · have t1 : decide (x < -100) = true := by simp; omega
                go_wp2
                go_returns
                exact ⟨⟨false, rfl, fun z => by cases z⟩, Lib.hid (HBB.out.bw.trans (HW.out.mono HBB.out.bw.size))⟩
              · have t1 : decide (x < -100) = false := by simp; omega
                by_cases z2 : 100 < y
                · have t2 : decide (100 < y) = true := by simp; omega
                  go_wp2
                  go_returns
                  exact ⟨⟨false, rfl, fun z => by cases z⟩, Lib.hid (HBB.out.bw.trans (HW.out.mono HBB.out.bw.size))⟩
                · have t2 : decide (100 < y) = false := by simp; omega
                  go_wp2
                  go_roundw
                  case rel => exact ⟨i + 1, by omega, by go_num, HW⟩
                  case measure => simp [intOf]; omega
          · obtain rfl : cn = i := by omega
            obtain ⟨wo, hwo⟩ : ∃ v : World, v = wr := ⟨_, rfl⟩
            subst hwo
            have HBB := Lib.hid (HBB.out.keep HW.out)
            have e0 : wo.cell? ⟨b, 0, none⟩ = some (.int .i64 P) := HBB.out.c0
            have e1 : wo.cell? ⟨b, 1, none⟩ = some (.int .i64 N) := HBB.out.c1
            have e2 : wo.cell? ⟨b, 2, none⟩ = some (.slice co cn cc) := HBB.out.c2
            have e3 : wo.cell? ⟨b, 3, none⟩ = some (.slice oo on oc) := HBB.out.c3
            go_wp2
            clear e0 e1 e2 e3
            clear HW
            go_loopw [49] (fun ii wr => ∃ i : Nat, i ≤ on ∧ ii = .int .i64 i ∧ Hid (Below wo.heap.size wo wr)) (fun ii _ => on - (intOf ii).toNat)
            case atStart => exact ⟨0, Nat.zero_le _, rfl, Lib.hid (Below.refl _ _)⟩
            case round =>
              obtain ⟨i, hi, rfl, HW⟩ := hrel
              by_cases ilt : i < on
              · have hil : i < os.length := by rw [LO.out]; exact ilt
                obtain ⟨g, p, e1, hc⟩ := (HBB.out.at_.odd.keep HW.out).here (show 0 < on by omega)
                obtain rfl : oo = some ⟨g, p, none⟩ := e1
                obtain ⟨h0, ⟨o, k, d, h1, _⟩, _⟩ := hc i hil
                obtain ⟨x, hx⟩ : ∃ x, os[i].1 = x := ⟨_, rfl⟩
                rw [hx] at h0
                clear hc hx
                have i0 : (0 : Int) ≤ (i : Int) := by omega
                have i1 : (i : Int) < (on : Int) := by omega
                obtain ⟨w4, hw4⟩ : ∃ W, wr.alloc (.cells #[.int .i64 x, .slice o k d] 60) = W := ⟨_, rfl⟩
                obtain ⟨b4, hb4⟩ : ∃ s, wr.heap.size = s := ⟨_, rfl⟩
                have KA : Below wr.heap.size wr w4 := by rw [← hw4]; exact (Below.refl _ _).alloc (Nat.le_refl _) _
                have H4 : Hid (w4.heap[b4]? = some (.cells #[.int .i64 x, .slice o k d] 60 (0, 0))) := Lib.hid (by rw [← hw4]; exact heap_at hb4)
                have HW := Lib.hid (HW.out.trans (KA.mono HW.out.size))
                have KA := Lib.hid KA
                go_upto_region 13 with fail
                try rw [hw4]
                try rw [hb4]
                clear hw4 hb4 KA h0 h1
                have f0 : w4.cell? ⟨b4, 0, none⟩ = some (.int .i64 x) := cell_block H4.out 0
                have f1 : w4.cell? ⟨b4, 1, none⟩ = some (.slice o k d) := cell_block H4.out 1
                by_cases z1 : x < -100
                · have t1 : decide (x < -100) = true := by simp; omega
                  go_wp2
                  go_returns
                  exact ⟨⟨false, rfl, fun z => by cases z⟩, Lib.hid (HBB.out.bw.trans (HW.out.mono HBB.out.bw.size))⟩
                · have t1 : decide (x < -100) = false := by simp; omega
                  by_cases z2 : 100 < x
                  · have t2 : decide (100 < x) = true := by simp; omega
                    go_wp2
                    go_returns
                    exact ⟨⟨false, rfl, fun z => by cases z⟩, Lib.hid (HBB.out.bw.trans (HW.out.mono HBB.out.bw.size))⟩
                  · have t2 : decide (100 < x) = false := by simp; omega
                    go_wp2
                    go_roundw
                    case rel => exact ⟨i + 1, by omega, by go_num, HW⟩
                    case measure => simp [intOf]; omega
              · obtain rfl : on = i := by omega
                go_wp2
                go_returns
                exact ⟨⟨true, rfl, fun _ => HOK.out⟩, Lib.hid (HBB.out.bw.trans (HW.out.mono HBB.out.bw.size))⟩
set_option maxRecDepth 8000 in
set_option maxHeartbeats 4000000 in
theorem few_any (n : Nv) (w : World) (hn : n.At w) : Calls Try.prog 12 #[n.v] w fun e w' => FewOut n e ∧ Hid (Below w.heap.size w w') := by
  obtain ⟨vars, fo, fn, fc, ko, kn, kc, fs, ks⟩ := n
  have HNA : Hid (Nv.At ⟨vars, fo, fn, fc, ko, kn, kc, fs, ks⟩ w) := Lib.hid hn
  have LF : Hid (fs.length = fn) := Lib.hid hn.forms.len
  have hfn : fn ≤ 9223372036854775807 := Nat.le_trans hn.forms.le hn.forms.top
  have hkn : kn ≤ 9223372036854775807 := Nat.le_trans hn.cons.le hn.cons.top
  obtain ⟨rn, hrn⟩ : ∃ r : Bool, r = true ↔ RtN ⟨vars, fo, fn, fc, ko, kn, kc, fs, ks⟩ := by classical exact ⟨decide _, decide_eq_true_iff⟩
  have HRN := Lib.hid hrn
  have CRN := Lib.hid (fun W (h : Nv.At ⟨vars, fo, fn, fc, ko, kn, kc, fs, ks⟩ W) (hsm : ∀ F ∈ fs, F.Small) => right_net ⟨vars, fo, fn, fc, ko, kn, kc, fs, ks⟩ W h hsm rn hrn)
  clear hn hrn
  obtain ⟨b, hb⟩ : ∃ b, w.heap.size = b := ⟨_, rfl⟩
  obtain ⟨wb, hwb⟩ : ∃ wb, w.alloc (.cells #[.int .i64 vars, .slice fo fn fc, .slice ko kn kc] 38) = wb := ⟨_, rfl⟩
  have KB : Hid (Below w.heap.size w wb) := Lib.hid (by rw [← hwb]; exact (Below.refl _ _).alloc (Nat.le_refl _) _)
  have HN : Hid (wb.heap[b]? = some (.cells #[.int .i64 vars, .slice fo fn fc, .slice ko kn kc] 38 (0, 0))) := Lib.hid (by rw [← hwb]; exact heap_at hb)
  show Calls Try.prog 12 #[.agg #[.int .i64 vars, .slice fo fn fc, .slice ko kn kc]] w _
  go_enter Try.func12, Try.ntmps12
  go_upto_region 1 with fail
  clear hwb hb
  have e0 : wb.cell? ⟨b, 0, none⟩ = some (.int .i64 vars) := cell_block HN.out 0
  have e1 : wb.cell? ⟨b, 1, none⟩ = some (.slice fo fn fc) := cell_block HN.out 1
  have e2 : wb.cell? ⟨b, 2, none⟩ = some (.slice ko kn kc) := cell_block HN.out 2
  by_cases v3 : 4 < fn
  · have t3 : decide ((4 : Int) < (fn : Int)) = true := by simp; omega
    go_wp2
    go_returns
    exact ⟨⟨false, rfl, fun z => by cases z⟩, KB⟩
  have t3 : decide ((4 : Int) < (fn : Int)) = false := by simp; omega
  by_cases v4 : 8 < kn
  · have t4 : decide ((8 : Int) < (kn : Int)) = true := by simp; omega
    go_wp2
    go_returns
    exact ⟨⟨false, rfl, fun z => by cases z⟩, KB⟩
  have t4 : decide ((8 : Int) < (kn : Int)) = false := by simp; omega
  by_cases v2 : 8 < vars
  · have t2 : decide (8 < vars) = true := by simp; exact v2
    go_wp2
    go_returns
    exact ⟨⟨false, rfl, fun z => by cases z⟩, KB⟩
  have t2 : decide (8 < vars) = false := by simp; omega
  go_wp2
  clear e0 e1 e2 t2 t3 t4
  go_loopw [23] (fun ii wr => ∃ i : Nat, i ≤ fn ∧ ii = .int .i64 i ∧ Hid (∀ F ∈ fs.take i, F.Small) ∧ Hid (Below wb.heap.size wb wr)) (fun ii _ => fn - (intOf ii).toNat)
  case atStart => exact ⟨0, Nat.zero_le _, rfl, Lib.hid (fun c h => by cases h), Lib.hid (Below.refl _ _)⟩
  case round =>
    obtain ⟨j, hj, rfl, HJ, HX⟩ := hrel
    by_cases jlt : j < fn
    · have hjl : j < fs.length := by rw [LF.out]; exact jlt
      have HAT := Lib.hid ((HNA.out.keep KB.out).keep HX.out)
      obtain ⟨g, q, e1, hc⟩ := HAT.out.forms.here (show 0 < fn by omega)
      obtain rfl : fo = some ⟨g, q, none⟩ := e1
      obtain ⟨k0, k1, k2, k3⟩ := hc j hjl
      have HTK := Lib.hid (List.take_succ_eq_append_getElem hjl)
      have HFA := Lib.hid (HAT.out.forms.at_ fs[j] (List.getElem_mem hjl))
      obtain ⟨F, hF⟩ : ∃ F, fs[j] = F := ⟨_, rfl⟩
      rw [hF] at k0 k1 k2 k3 HTK HFA
      clear hF hc HAT
      have CR := Lib.hid (fun W (h : F.At W) => near_any F W h)
      obtain ⟨P, N, co, cn, cc, oo, on, oc, cs, os⟩ := F
      dsimp only at k0 k1 k2 k3
      have CR : Hid (∀ W, Fv.At ⟨P, N, co, cn, cc, oo, on, oc, cs, os⟩ W → Calls Try.prog 26 #[.agg #[.int .i64 P, .int .i64 N, .slice co cn cc, .slice oo on oc]] W fun e w' => NrOut ⟨P, N, co, cn, cc, oo, on, oc, cs, os⟩ e ∧ Hid (Below W.heap.size W w')) := CR
      have i0 : (0 : Int) ≤ (j : Int) := by omega
      have i1 : (j : Int) < (fn : Int) := by omega
      obtain ⟨b5, hb5⟩ : ∃ b, wr.heap.size = b := ⟨_, rfl⟩
      obtain ⟨wk, hwk⟩ : ∃ v, wr.alloc (.cells #[.int .i64 P, .int .i64 N, .slice co cn cc, .slice oo on oc] 25) = v := ⟨_, rfl⟩
      have KK : Below wr.heap.size wr wk := by rw [← hwk]; exact (Below.refl _ _).alloc (Nat.le_refl _) _
      have H5 : Hid (wk.heap[b5]? = some (.cells #[.int .i64 P, .int .i64 N, .slice co cn cc, .slice oo on oc] 25 (0, 0))) := Lib.hid (by rw [← hwk]; exact heap_at hb5)
      have HXK := Lib.hid (HX.out.trans (KK.mono HX.out.size))
      have HFK := Lib.hid (HFA.out.keep KK)
      clear hjl KK HFA
      have f0 : wk.cell? ⟨b5, 0, none⟩ = some (.int .i64 P) := cell_block H5.out 0
      have f1 : wk.cell? ⟨b5, 1, none⟩ = some (.int .i64 N) := cell_block H5.out 1
      have f2 : wk.cell? ⟨b5, 2, none⟩ = some (.slice co cn cc) := cell_block H5.out 2
      have f3 : wk.cell? ⟨b5, 3, none⟩ = some (.slice oo on oc) := cell_block H5.out 3
      go_wp2_with fail
      (with_reducible refine (CR.out _ HFK.out).mono ?_)
      rintro e w2 ⟨⟨rr, rfl, hsm⟩, q5⟩
      have HSM := Lib.hid hsm
      have HX2 := Lib.hid (HXK.out.trans (q5.out.mono HXK.out.size))
      clear hwk hb5 q5 k0 k1 k2 k3 f0 f1 f2 f3 H5 HFK CR HXK hsm
      cases rr
      · go_wp2
        go_returns
        exact ⟨⟨false, rfl, fun z => by cases z⟩, Lib.hid (KB.out.trans (HX2.out.mono KB.out.size))⟩
      · have HJ2 : Hid (∀ F ∈ fs.take (j + 1), F.Small) := Lib.hid (fun c hc => by
          rw [HTK.out] at hc
          rcases List.mem_append.1 hc with z | z
          · exact HJ.out c z
          · rw [List.mem_singleton.1 z]; exact (HSM.out (by first | rfl | trivial)).1)
        go_wp2
        go_roundw
        case rel => exact ⟨j + 1, by omega, by go_num, HJ2, HX2⟩
        case measure => simp [intOf]; omega
    · obtain rfl : fn = j := by omega
      have HALL : Hid (∀ F ∈ fs, F.Small) := Lib.hid (fun F hF => HJ.out F (by rw [List.take_of_length_le (by rw [LF.out]; exact Nat.le_refl _)]; exact hF))
      have HNO := Lib.hid (heap_keep HN.out HX.out)
      have CR2 := Lib.hid (CRN.out wr ((HNA.out.keep KB.out).keep HX.out) HALL.out)
      clear HJ CRN
      have e0 : wr.cell? ⟨b, 0, none⟩ = some (.int .i64 vars) := cell_block HNO.out 0
      have e1 : wr.cell? ⟨b, 1, none⟩ = some (.slice fo fn fc) := cell_block HNO.out 1
      have e2 : wr.cell? ⟨b, 2, none⟩ = some (.slice ko kn kc) := cell_block HNO.out 2
      go_wp2_with fail
      (with_reducible refine CR2.out.mono ?_)
      rintro e w3 ⟨rfl, q⟩
      have HX := Lib.hid (HX.out.trans (q.out.mono HX.out.size))
      clear q CR2 e0 e1 e2
      cases rn
      · have tz : ncode false = 230 := rfl
        go_wp2
        go_returns
        exact ⟨⟨false, rfl, fun z => by cases z⟩, Lib.hid (KB.out.trans (HX.out.mono KB.out.size))⟩
      · have tz : ncode true = 0 := rfl
        have HF : Hid (FewN ⟨vars, fo, fn, fc, ko, kn, kc, fs, ks⟩) := Lib.hid ⟨by show fn ≤ 4; omega, by show kn ≤ 8; omega, by show vars ≤ 8; omega, HALL.out, HRN.out.1 (by first | rfl | trivial)⟩
        go_wp2
        go_returns
        exact ⟨⟨true, rfl, fun _ => HF.out⟩, Lib.hid (KB.out.trans (HX.out.mono KB.out.size))⟩
end Go.Proofs.Ytaobhhgalkkmaaa
