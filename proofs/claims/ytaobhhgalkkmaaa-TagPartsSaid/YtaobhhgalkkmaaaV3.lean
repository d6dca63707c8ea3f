/- T8, T9p, T9 in one. -/
import Derived.Test.YtaobhhgalkkmaaaV2
import Derived.Test.YtaobhhgalkkmaaaEe
import Derived.Test.YtaobhhgalkkmaaaW2
namespace Go.Proofs.Ytaobhhgalkkmaaa
set_option linter.unusedVariables false
set_option linter.unusedSimpArgs false
open Go.ChangeShapes Go.WideShapes Go.ChangeAt Go.RowKit
def RtN (n : Nv) : Prop := (0 ≤ n.vars ∧ n.vars ≤ 24) ∧ n.fn ≤ 20 ∧ n.kn ≤ 200 ∧ (∀ c ∈ n.ks, FitsC n.vars n.fn c ∧ EndRg c.lo c.hi c.hl c.hh) ∧ ∀ F ∈ n.fs, F.Rt
def ncode (r : Bool) : Int := if r then 0 else 230
theorem ret_code {r b : Bool} (h : b = r) : Ending.returned (.int .i64 (ncode b)) = .returned (.int .i64 (ncode r)) := by rw [h]
set_option maxRecDepth 8000 in
set_option maxHeartbeats 4000000 in
theorem right_net (n : Nv) (w : World) (hn : n.At w) (hsm : ∀ F ∈ n.fs, F.Small) (r : Bool) (hr : r = true ↔ RtN n) : Calls Try.prog 22 #[n.v] w fun e w' => e = .returned (.int .i64 (ncode r)) ∧ Hid (Below w.heap.size w w') := by
  obtain ⟨vars, fo, fn, fc, ko, kn, kc, fs, ks⟩ := n
  have HNA : Hid (Nv.At ⟨vars, fo, fn, fc, ko, kn, kc, fs, ks⟩ w) := Lib.hid hn
  have LF : Hid (fs.length = fn) := Lib.hid hn.forms.len
  have LK : Hid (ks.length = kn) := Lib.hid hn.cons.len
  have hfn : fn ≤ 9223372036854775807 := Nat.le_trans hn.forms.le hn.forms.top
  have hkn : kn ≤ 9223372036854775807 := Nat.le_trans hn.cons.le hn.cons.top
  have HSM : Hid (∀ F ∈ fs, F.Small) := Lib.hid hsm
  have HR : Hid (r = true ↔ (0 ≤ vars ∧ vars ≤ 24) ∧ fn ≤ 20 ∧ kn ≤ 200 ∧ (∀ c ∈ ks, FitsC vars fn c ∧ EndRg c.lo c.hi c.hl c.hh) ∧ ∀ F ∈ fs, F.Rt) := Lib.hid hr
  clear hn hsm hr
  obtain ⟨b, hb⟩ : ∃ b, w.heap.size = b := ⟨_, rfl⟩
  obtain ⟨wb, hwb⟩ : ∃ wb, w.alloc (.cells #[.int .i64 vars, .slice fo fn fc, .slice ko kn kc] 38) = wb := ⟨_, rfl⟩
  have KB : Hid (Below w.heap.size w wb) := Lib.hid (by rw [← hwb]; exact (Below.refl _ _).alloc (Nat.le_refl _) _)
  have HN : Hid (wb.heap[b]? = some (.cells #[.int .i64 vars, .slice fo fn fc, .slice ko kn kc] 38 (0, 0))) := Lib.hid (by rw [← hwb]; exact heap_at hb)
  show Calls Try.prog 22 #[.agg #[.int .i64 vars, .slice fo fn fc, .slice ko kn kc]] w _
  go_enter Try.func22, Try.ntmps22
  go_upto_region 1 with fail
  clear hwb hb
  have e0 : wb.cell? ⟨b, 0, none⟩ = some (.int .i64 vars) := cell_block HN.out 0
  have e1 : wb.cell? ⟨b, 1, none⟩ = some (.slice fo fn fc) := cell_block HN.out 1
  have e2 : wb.cell? ⟨b, 2, none⟩ = some (.slice ko kn kc) := cell_block HN.out 2
  by_cases v1 : vars < 0
  · have t1 : decide (vars < 0) = true := by simp; exact v1
    have HF : Hid (false = r) := Lib.hid (by
      cases r with
      | false => rfl
      | true =>
        have h := HR.out.1 rfl
        omega)
    clear HR
    go_wp2
    go_returns
    exact ⟨ret_code HF.out, KB⟩
  have t1 : decide (vars < 0) = false := by simp; omega
  by_cases v2 : 24 < vars
  · have t2 : decide (24 < vars) = true := by simp; exact v2
    have HF : Hid (false = r) := Lib.hid (by
      cases r with
      | false => rfl
      | true =>
        have h := HR.out.1 rfl
        omega)
    clear HR
    go_wp2
    go_returns
    exact ⟨ret_code HF.out, KB⟩
  have t2 : decide (24 < vars) = false := by simp; omega
  by_cases v3 : 20 < fn
  · have t3 : decide ((20 : Int) < (fn : Int)) = true := by simp; omega
    have HF : Hid (false = r) := Lib.hid (by
      cases r with
      | false => rfl
      | true =>
        have h := HR.out.1 rfl
        omega)
    clear HR
    go_wp2
    go_returns
    exact ⟨ret_code HF.out, KB⟩
  have t3 : decide ((20 : Int) < (fn : Int)) = false := by simp; omega
  by_cases v4 : 200 < kn
  · have t4 : decide ((200 : Int) < (kn : Int)) = true := by simp; omega
    have HF : Hid (false = r) := Lib.hid (by
      cases r with
      | false => rfl
      | true =>
        have h := HR.out.1 rfl
        omega)
    clear HR
    go_wp2
    go_returns
    exact ⟨ret_code HF.out, KB⟩
  have t4 : decide ((200 : Int) < (kn : Int)) = false := by simp; omega
  go_wp2
  clear e0 e1 e2 t1 t2 t3 t4
  go_loopw [30] (fun ii wr => ∃ i : Nat, i ≤ kn ∧ ii = .int .i64 i ∧ Hid (∀ c ∈ ks.take i, FitsC vars fn c ∧ EndRg c.lo c.hi c.hl c.hh) ∧ Hid (Below wb.heap.size wb wr)) (fun ii _ => kn - (intOf ii).toNat)
  case atStart => exact ⟨0, Nat.zero_le _, rfl, Lib.hid (fun c h => by cases h), Lib.hid (Below.refl _ _)⟩
  case round =>
    obtain ⟨i, hi, rfl, HI, HW⟩ := hrel
    by_cases ilt : i < kn
    · have hil : i < ks.length := by rw [LK.out]; exact ilt
      obtain ⟨g, q, e1, hc⟩ := ((HNA.out.keep KB.out).keep HW.out).cons.here (show 0 < kn by omega)
      obtain rfl : ko = some ⟨g, q, none⟩ := e1
      obtain ⟨k0, k1, k2, k3, k4, k5, k6⟩ := hc i hil
      have HTK := Lib.hid (List.take_succ_eq_append_getElem hil)
      have HME := Lib.hid (List.getElem_mem hil)
      obtain ⟨c, hcc⟩ : ∃ c, ks[i] = c := ⟨_, rfl⟩
      rw [hcc] at k0 k1 k2 k3 k4 k5 k6 HTK HME
      clear hcc hc
      obtain ⟨cx, cy, cf, lo, hi', hl, hh⟩ := c
      dsimp only at k0 k1 k2 k3 k4 k5 k6
      obtain ⟨rf, hrf⟩ : ∃ r : Bool, r = true ↔ FitsC vars fn ⟨cx, cy, cf, lo, hi', hl, hh⟩ := by classical exact ⟨decide _, decide_eq_true_iff⟩
      obtain ⟨re, hre⟩ : ∃ r : Bool, r = true ↔ EndRg lo hi' hl hh := by classical exact ⟨decide _, decide_eq_true_iff⟩
      have HRF := Lib.hid hrf
      have HRE := Lib.hid hre
      have CF := Lib.hid (fun W => fits_any ⟨vars, fo, fn, fc, some ⟨g, q, none⟩, kn, kc, fs, ks⟩ ⟨cx, cy, cf, lo, hi', hl, hh⟩ W rf hrf hfn)
      have CE := Lib.hid (fun W => rgEnd_any lo hi' hl hh W re hre)
      have i0 : (0 : Int) ≤ (i : Int) := by omega
      have i1 : (i : Int) < (kn : Int) := by omega
      obtain ⟨b5, hb5⟩ : ∃ b, wr.heap.size = b := ⟨_, rfl⟩
      obtain ⟨wk, hwk⟩ : ∃ v, wr.alloc (.cells #[.int .i64 cx, .int .i64 cy, .int .i64 cf, .int .i64 lo, .int .i64 hi', .bool hl, .bool hh] 42) = v := ⟨_, rfl⟩
      have KK : Below wr.heap.size wr wk := by rw [← hwk]; exact (Below.refl _ _).alloc (Nat.le_refl _) _
      have H5 : Hid (wk.heap[b5]? = some (.cells #[.int .i64 cx, .int .i64 cy, .int .i64 cf, .int .i64 lo, .int .i64 hi', .bool hl, .bool hh] 42 (0, 0))) := Lib.hid (by rw [← hwk]; exact heap_at hb5)
      have HWK := Lib.hid (HW.out.trans (KK.mono HW.out.size))
      have HN1 : Hid (wk.heap[b]? = some (.cells #[.int .i64 vars, .slice fo fn fc, .slice (some ⟨g, q, none⟩) kn kc] 38 (0, 0))) := Lib.hid (heap_keep HN.out HWK.out)
      clear hrf hre hil KK
      have e0 : wk.cell? ⟨b, 0, none⟩ = some (.int .i64 vars) := cell_block HN1.out 0
      have e1 : wk.cell? ⟨b, 1, none⟩ = some (.slice fo fn fc) := cell_block HN1.out 1
      have e2 : wk.cell? ⟨b, 2, none⟩ = some (.slice (some ⟨g, q, none⟩) kn kc) := cell_block HN1.out 2
      have f0 : wk.cell? ⟨b5, 0, none⟩ = some (.int .i64 cx) := cell_block H5.out 0
      have f1 : wk.cell? ⟨b5, 1, none⟩ = some (.int .i64 cy) := cell_block H5.out 1
      have f2 : wk.cell? ⟨b5, 2, none⟩ = some (.int .i64 cf) := cell_block H5.out 2
      have f3 : wk.cell? ⟨b5, 3, none⟩ = some (.int .i64 lo) := cell_block H5.out 3
      have f4 : wk.cell? ⟨b5, 4, none⟩ = some (.int .i64 hi') := cell_block H5.out 4
      have f5 : wk.cell? ⟨b5, 5, none⟩ = some (.bool hl) := cell_block H5.out 5
      have f6 : wk.cell? ⟨b5, 6, none⟩ = some (.bool hh) := cell_block H5.out 6
      go_wp2_with fail
      (with_reducible refine (CF.out _).mono ?_)
      rintro e w2 ⟨rfl, q5⟩
      have HW2 := Lib.hid (HWK.out.trans (q5.out.mono HWK.out.size))
      have H52 := Lib.hid (heap_keep H5.out q5.out)
      clear hwk hb5 q5 k0 k1 k2 k3 k4 k5 k6 e0 e1 e2 f0 f1 f2 f3 f4 f5 f6 H5 HN1 CF HWK
      cases rf
      · have HF : Hid (false = r) := Lib.hid (by
          cases r with
          | false => rfl
          | true => have h := HRF.out.2 ((HR.out.1 rfl).2.2.2.1 _ HME.out).1; cases h)
        clear HR
        go_wp2
        go_returns
        exact ⟨ret_code HF.out, Lib.hid (KB.out.trans (HW2.out.mono KB.out.size))⟩
      · have f3 := cell_block H52.out 3
        have f4 := cell_block H52.out 4
        have f5 := cell_block H52.out 5
        have f6 := cell_block H52.out 6
        go_wp2_with fail
        (with_reducible refine (CE.out _).mono ?_)
        rintro e w3 ⟨rfl, q5⟩
        have HW3 := Lib.hid (HW2.out.trans (q5.out.mono HW2.out.size))
        clear q5 f3 f4 f5 f6 CE HW2 H52
        cases re
        · have HF : Hid (false = r) := Lib.hid (by
            cases r with
            | false => rfl
            | true => have h := HRE.out.2 ((HR.out.1 rfl).2.2.2.1 _ HME.out).2; cases h)
          clear HR
          go_wp2
          go_returns
          exact ⟨ret_code HF.out, Lib.hid (KB.out.trans (HW3.out.mono KB.out.size))⟩
        · have HI2 : Hid (∀ c ∈ ks.take (i + 1), FitsC vars fn c ∧ EndRg c.lo c.hi c.hl c.hh) := Lib.hid (fun c hc => by
            rw [HTK.out] at hc
            rcases List.mem_append.1 hc with z | z
            · exact HI.out c z
            · rw [List.mem_singleton.1 z]; exact ⟨HRF.out.1 (by first | rfl | trivial), HRE.out.1 (by first | rfl | trivial)⟩)
          go_wp2
          go_roundw
          case rel => exact ⟨i + 1, by omega, by go_num, HI2, HW3⟩
          case measure => simp [intOf]; omega
    · obtain rfl : kn = i := by omega
      have HKS : Hid (∀ c ∈ ks, FitsC vars fn c ∧ EndRg c.lo c.hi c.hl c.hh) := Lib.hid (fun c hc => HI.out c (by rw [List.take_of_length_le (by rw [LK.out]; exact Nat.le_refl _)]; exact hc))
      obtain ⟨wo, hwo⟩ : ∃ v : World, v = wr := ⟨_, rfl⟩
      subst hwo
      have HNO := Lib.hid (heap_keep HN.out HW.out)
      have e0 : wo.cell? ⟨b, 0, none⟩ = some (.int .i64 vars) := cell_block HNO.out 0
      have e1 : wo.cell? ⟨b, 1, none⟩ = some (.slice fo fn fc) := cell_block HNO.out 1
      have e2 : wo.cell? ⟨b, 2, none⟩ = some (.slice ko kn kc) := cell_block HNO.out 2
      clear HI
      go_wp2
      clear e0 e1 e2
      go_loopw [48] (fun ii wr => ∃ i : Nat, i ≤ fn ∧ ii = .int .i64 i ∧ Hid (∀ F ∈ fs.take i, F.Rt) ∧ Hid (Below wb.heap.size wb wr)) (fun ii _ => fn - (intOf ii).toNat)
      case atStart => exact ⟨0, Nat.zero_le _, rfl, Lib.hid (fun c h => by cases h), HW⟩
      case round =>
        obtain ⟨j, hj, rfl, HJ, HX⟩ := hrel
        by_cases jlt : j < fn
        · have hjl : j < fs.length := by rw [LF.out]; exact jlt
          have HAT := Lib.hid ((HNA.out.keep KB.out).keep HX.out)
          obtain ⟨g, q, e1, hc⟩ := HAT.out.forms.here (show 0 < fn by omega)
          obtain rfl : fo = some ⟨g, q, none⟩ := e1
          obtain ⟨k0, k1, k2, k3⟩ := hc j hjl
          have HTK := Lib.hid (List.take_succ_eq_append_getElem hjl)
          have HME := Lib.hid (List.getElem_mem hjl)
          have HFA := Lib.hid (HAT.out.forms.at_ fs[j] (List.getElem_mem hjl))
          have HFS := Lib.hid (HSM.out fs[j] (List.getElem_mem hjl))
          obtain ⟨F, hF⟩ : ∃ F, fs[j] = F := ⟨_, rfl⟩
          rw [hF] at k0 k1 k2 k3 HTK HME HFA HFS
          clear hF hc HAT
          obtain ⟨rr, hrr⟩ : ∃ r : Bool, r = true ↔ F.Rt := by classical exact ⟨decide _, decide_eq_true_iff⟩
          have HRR := Lib.hid hrr
          have CR := Lib.hid (fun W (h : F.At W) => right_small F W h HFS.out rr hrr)
          obtain ⟨P, N, co, cn, cc, oo, on, oc, cs, os⟩ := F
          dsimp only at k0 k1 k2 k3
          have CR : Hid (∀ W, Fv.At ⟨P, N, co, cn, cc, oo, on, oc, cs, os⟩ W → Calls Try.prog 7 #[.agg #[.int .i64 P, .int .i64 N, .slice co cn cc, .slice oo on oc]] W fun e w' => e = .returned (.int .i64 (rcode rr)) ∧ Below W.heap.size W w') := CR
          have i0 : (0 : Int) ≤ (j : Int) := by omega
          have i1 : (j : Int) < (fn : Int) := by omega
          obtain ⟨b5, hb5⟩ : ∃ b, wr.heap.size = b := ⟨_, rfl⟩
          obtain ⟨wk, hwk⟩ : ∃ v, wr.alloc (.cells #[.int .i64 P, .int .i64 N, .slice co cn cc, .slice oo on oc] 25) = v := ⟨_, rfl⟩
          have KK : Below wr.heap.size wr wk := by rw [← hwk]; exact (Below.refl _ _).alloc (Nat.le_refl _) _
          have H5 : Hid (wk.heap[b5]? = some (.cells #[.int .i64 P, .int .i64 N, .slice co cn cc, .slice oo on oc] 25 (0, 0))) := Lib.hid (by rw [← hwk]; exact heap_at hb5)
          have HXK := Lib.hid (HX.out.trans (KK.mono HX.out.size))
          have HFK := Lib.hid (HFA.out.keep KK)
          clear hrr hjl KK HFA
          have f0 : wk.cell? ⟨b5, 0, none⟩ = some (.int .i64 P) := cell_block H5.out 0
          have f1 : wk.cell? ⟨b5, 1, none⟩ = some (.int .i64 N) := cell_block H5.out 1
          have f2 : wk.cell? ⟨b5, 2, none⟩ = some (.slice co cn cc) := cell_block H5.out 2
          have f3 : wk.cell? ⟨b5, 3, none⟩ = some (.slice oo on oc) := cell_block H5.out 3
          go_wp2_with fail
          (with_reducible refine (CR.out _ HFK.out).mono ?_)
          rintro e w2 ⟨rfl, q5⟩
          have HX2 := Lib.hid (HXK.out.trans (q5.mono HXK.out.size))
          clear hwk hb5 q5 k0 k1 k2 k3 f0 f1 f2 f3 H5 HFK CR HXK
          cases rr
          · have HF : Hid (false = r) := Lib.hid (by
              cases r with
              | false => rfl
              | true => have h := HRR.out.2 ((HR.out.1 rfl).2.2.2.2 _ HME.out); cases h)
            have tz : rcode false = 50 := rfl
            clear HR
            go_wp2
            go_returns
            exact ⟨ret_code HF.out, Lib.hid (KB.out.trans (HX2.out.mono KB.out.size))⟩
          · have HJ2 : Hid (∀ F ∈ fs.take (j + 1), F.Rt) := Lib.hid (fun c hc => by
              rw [HTK.out] at hc
              rcases List.mem_append.1 hc with z | z
              · exact HJ.out c z
              · rw [List.mem_singleton.1 z]; exact HRR.out.1 (by first | rfl | trivial))
            have tz : rcode true = 0 := rfl
            go_wp2
            go_roundw
            case rel => exact ⟨j + 1, by omega, by go_num, HJ2, HX2⟩
            case measure => simp [intOf]; omega
        · obtain rfl : fn = j := by omega
          have HF : Hid (true = r) := Lib.hid ((HR.out.2 ⟨⟨by omega, by omega⟩, by omega, by omega, HKS.out, fun F hF => HJ.out F (by rw [List.take_of_length_le (by rw [LF.out]; exact Nat.le_refl _)]; exact hF)⟩).symm)
          clear HR
          go_wp2
          go_returns
          exact ⟨ret_code HF.out, Lib.hid (KB.out.trans (HX.out.mono KB.out.size))⟩
theorem weeks_cg (k : Int) : cg [[(0, 4)]] 7 1 k = [(7 * k, 7 * k + 4)] := by
  rw [cg_in (cs := [[(0, 4)]]) (P := 7) (N := 1) ⟨by decide, rfl⟩]
  have e1 : k.fmod 1 = 0 := by have := fmod_nat k (N := 1) (by decide); omega
  have e2 : k.fdiv 1 = k := by have := fmod_eq k 1; omega
  unfold cset
  rw [e1, e2]
  simp [moved]
  omega
theorem weeks_gr (co : Option Addr) (cc : Nat) (k : Int) : gr (weeksF 7 [] co cc none 0) k = [(7 * k, 7 * k + 4)] := weeks_cg k
theorem ex_weeks {co : Option Addr} {cc : Nat} {k : Int} (h1 : -1000 ≤ k) (h2 : k ≤ 1000) : Ex (weeksF 7 [] co cc none 0) k := ⟨⟨by omega, by omega⟩, by rw [weeks_gr]; intro s hs; simp at hs; subst hs; simp only; omega, by rw [weeks_gr]; simp⟩
theorem weeks_mem (co : Option Addr) (cc : Nat) (k t : Int) : mem (gr (weeksF 7 [] co cc none 0) k) t ↔ 7 * k ≤ t ∧ t ≤ 7 * k + 4 := by rw [weeks_gr, mem_one]
theorem okW (co : Option Addr) (cc : Nat) : (weeksF 7 [] co cc none 0).Ok := (rt_weeks co cc none 0).ok ⟨(show 1 ≤ 12 by decide), (show 0 ≤ 8 by decide), (show lens [[(0, 4)]] + lens (tks []) ≤ 60 by decide)⟩
theorem weeks_at' {W : World} {co : Option Addr} {cc : Nat} (h : CoAt W co 1 cc [[(0, 4)]]) : (weeksF 7 [] co cc none 0).At W := ⟨(show (-9223372036854775808 : Int) ≤ 7 by decide), (show (7 : Int) ≤ 9223372036854775807 by decide), (show (-9223372036854775808 : Int) ≤ 1 by decide), (show (1 : Int) ≤ 9223372036854775807 by decide), h, ⟨rfl, Nat.le_refl _, (show 0 ≤ 9223372036854775807 by decide), fun _ => ⟨rfl, rfl⟩, fun h => absurd h (Nat.lt_irrefl _)⟩, ⟨fun l hl => by simp at hl; subst hl; decide, fun o ho => by cases ho⟩⟩
theorem aw_at {co : Option Addr} {cc : Nat} {t k : Int} (h1 : -1000 ≤ k) (h2 : k ≤ 1000) (h3 : 7 * k ≤ t) (h4 : t ≤ 7 * k + 4) : AtIs (weeksF 7 [] co cc none 0) t k true := ⟨fun _ => ⟨ex_weeks h1 h2, (weeks_mem _ _ _ _).2 ⟨h3, h4⟩⟩, fun z => by cases z⟩
theorem aw_5 {co : Option Addr} {cc : Nat} : AtIs (weeksF 7 [] co cc none 0) 5 0 false := ⟨(fun z => by cases z), fun _ => ⟨rfl, fun k _ m => by have := (weeks_mem _ _ _ _).1 m; omega⟩⟩
def kon : Cn := ⟨0, 1, 0, 1, 2, true, true⟩
abbrev awN (co : Option Addr) (cc g1 g2 : Nat) : Nv := ⟨2, some ⟨g1, 0, none⟩, 1, 1, some ⟨g2, 0, none⟩, 1, 1, [weeksF 7 [] co cc none 0], [kon]⟩
theorem aw_net {W : World} {co : Option Addr} {cc g1 g2 : Nat} (hc : CoAt W co 1 cc [[(0, 4)]]) (h1 : W.heap[g1]? = some (.cells #[.int .i64 7, .int .i64 1, .slice co 1 cc, .slice none 0 0] 25 (0, 0))) (h2 : W.heap[g2]? = some (.cells kon.box 42 (0, 0))) : (awN co cc g1 g2).At W :=
  ⟨(show (-9223372036854775808 : Int) ≤ 2 by decide), (show (2 : Int) ≤ 9223372036854775807 by decide),
   ⟨rfl, Nat.le_refl _, (show 1 ≤ 9223372036854775807 by decide), (fun F hF => by rw [List.mem_singleton.1 hF]; exact weeks_at' hc), fun _ => ⟨g1, 0, rfl, fun i hi => by
      obtain rfl : i = 0 := by simpa using hi
      exact ⟨cell_block h1 0, cell_block h1 1, cell_block h1 2, cell_block h1 3⟩⟩⟩,
   ⟨rfl, Nat.le_refl _, (show 1 ≤ 9223372036854775807 by decide), fun _ => ⟨g2, 0, rfl, fun i hi => by
      obtain rfl : i = 0 := by simpa using hi
      exact ⟨cell_block h2 0, cell_block h2 1, cell_block h2 2, cell_block h2 3, cell_block h2 4, cell_block h2 5, cell_block h2 6⟩⟩⟩⟩
theorem aw_fits : FitsC 2 1 kon := ⟨⟨by decide, by decide⟩, ⟨by decide, by decide⟩, by decide, by decide⟩
theorem aw_rt {co : Option Addr} {cc g1 g2 : Nat} : ∀ F ∈ (awN co cc g1 g2).fs, F.Rt ∧ F.Ok ∧ F.cn ≤ 10000 := fun F hF => by
  rw [List.mem_singleton.1 hF]; exact ⟨rt_weeks co cc none 0, okW co cc, (show 1 ≤ 10000 by decide)⟩
theorem aw_own {a b : Int} (h1 : 0 ≤ a) (h2 : a ≤ 100) (h3 : 0 ≤ b) (h4 : b ≤ 100) : Own 2 [a, b] := ⟨rfl, fun t ht => by simp at ht; rcases ht with rfl | rfl <;> omega⟩
theorem aw_met {co : Option Addr} {cc g1 g2 : Nat} {a b i j : Int} {p q : Bool} (ha : AtIs (weeksF 7 [] co cc none 0) a i p) (hb : AtIs (weeksF 7 [] co cc none 0) b j q) : Met (awN co cc g1 g2).fs 2 [a, b] kon ↔ p = true ∧ q = true ∧ InRg 1 2 true true (j - i) :=
  met_ways (c := kon) (F := weeksF 7 [] co cc none 0) aw_fits (rt_weeks co cc none 0) (okW co cc) rfl rfl rfl rfl ha hb
theorem aw_small {co : Option Addr} {cc : Nat} : (weeksF 7 [] co cc none 0).Small := ⟨(show 1 ≤ 12 by decide), (show 0 ≤ 8 by decide), (show lens [[(0, 4)]] + lens (tks []) ≤ 60 by decide)⟩
theorem aw_right {co : Option Addr} {cc g1 g2 : Nat} : RtN (awN co cc g1 g2) := ⟨⟨(show (0 : Int) ≤ 2 by decide), (show (2 : Int) ≤ 24 by decide)⟩, (show 1 ≤ 20 by decide), (show 1 ≤ 200 by decide), (fun c hc => by rw [List.mem_singleton.1 hc]; exact ⟨aw_fits, .inl rfl, .inl rfl⟩), fun F hF => by rw [List.mem_singleton.1 hF]; exact rt_weeks co cc none 0⟩
theorem iz_zero {w : World} {g : Nat} (h : w.heap[g]? = some (.cells #[.int .i64 0] 3 (0, 0))) : IzAt w (some ⟨g, 0, none⟩) 1 1 [0] := ⟨rfl, Nat.le_refl _, (show 1 ≤ 9223372036854775807 by decide), fun _ => ⟨g, 0, rfl, fun i hi => by
  obtain rfl : i = 0 := by simpa using hi
  exact cell_block h 0⟩⟩
set_option maxRecDepth 8000 in
set_option maxHeartbeats 4000000 in
theorem awake_any (w : World) : Calls Try.prog 8 #[] w fun e w' => e = .returned (.bool true) ∧ Below w.heap.size w w' := by
  have CWK : Hid (∀ W, Calls Try.prog 21 #[] W fun e w' => ∃ co cc, e = .returned (.agg #[.int .i64 7, .int .i64 1, .slice co 1 cc, .slice none 0 0]) ∧ Hid (CoAt w' co 1 cc [[(0, 4)]]) ∧ Below W.heap.size W w') := Lib.hid (fun W => weeks_any W)
  go_enter Try.func8, Try.ntmps8
  go_wp2_with fail
  (with_reducible refine (CWK.out _).mono ?_)
  rintro e w1 ⟨co, cc, rfl, HCO, q⟩
  have HW := Lib.hid q
  clear q CWK
  go_upto_region 2 with fail
  obtain ⟨bf, hbf⟩ : ∃ s, w1.heap.size = s := ⟨_, rfl⟩
  obtain ⟨w2, hw2⟩ : ∃ W, w1.alloc (.cells #[.int .i64 7, .int .i64 1, .slice co 1 cc, .slice none 0 0] 25) = W := ⟨_, rfl⟩
  have K2 : Below w1.heap.size w1 w2 := by rw [← hw2]; exact (Below.refl _ _).alloc (Nat.le_refl _) _
  have HBF : Hid (w2.heap[bf]? = some (.cells #[.int .i64 7, .int .i64 1, .slice co 1 cc, .slice none 0 0] 25 (0, 0))) := Lib.hid (by rw [← hw2]; exact heap_at hbf)
  have HCO := Lib.hid (HCO.out.keep K2)
  have HW := Lib.hid (HW.out.trans (K2.mono HW.out.size))
  have CD1 : Hid (∀ W, Fv.At (weeksF 7 [] co cc none 0) W → Calls Try.prog 9 #[.agg #[.int .i64 7, .int .i64 1, .slice co 1 cc, .slice none 0 0], .int .i64 3, .int .i64 9] W fun e w' => e = .returned (.tuple #[.int .i64 1, .bool true]) ∧ Hid (Below W.heap.size W w')) := Lib.hid (fun W h => distance_any (weeksF 7 [] co cc none 0) 3 9 0 1 true true W h (rt_weeks co cc none 0) (okW co cc) (show 1 ≤ 10000 by decide) (by decide) (by decide) (by decide) (by decide) (aw_at (by decide) (by decide) (by decide) (by decide)) (aw_at (by decide) (by decide) (by decide) (by decide)) 1 true rfl rfl)
  have CD2 : Hid (∀ W, Fv.At (weeksF 7 [] co cc none 0) W → Calls Try.prog 9 #[.agg #[.int .i64 7, .int .i64 1, .slice co 1 cc, .slice none 0 0], .int .i64 3, .int .i64 5] W fun e w' => e = .returned (.tuple #[.int .i64 0, .bool false]) ∧ Hid (Below W.heap.size W w')) := Lib.hid (fun W h => distance_any (weeksF 7 [] co cc none 0) 3 5 0 0 true false W h (rt_weeks co cc none 0) (okW co cc) (show 1 ≤ 10000 by decide) (by decide) (by decide) (by decide) (by decide) (aw_at (by decide) (by decide) (by decide) (by decide)) aw_5 0 false rfl rfl)
  rw [hw2, hbf]
  clear hbf hw2 K2
  have e0 : w2.cell? ⟨bf, 0, none⟩ = some (.int .i64 7) := cell_block HBF.out 0
  have e1 : w2.cell? ⟨bf, 1, none⟩ = some (.int .i64 1) := cell_block HBF.out 1
  have e2 : w2.cell? ⟨bf, 2, none⟩ = some (.slice co 1 cc) := cell_block HBF.out 2
  have e3 : w2.cell? ⟨bf, 3, none⟩ = some (.slice none 0 0) := cell_block HBF.out 3
  go_wp2_with fail
  (with_reducible refine (CD1.out _ (weeks_at' HCO.out)).mono ?_)
  rintro e w3 ⟨rfl, q⟩
  have HW := Lib.hid (HW.out.trans (q.out.mono HW.out.size))
  have HCO := Lib.hid (HCO.out.keep q.out)
  have HBF := Lib.hid (heap_keep HBF.out q.out)
  clear q e0 e1 e2 e3 CD1
  have e0 : w3.cell? ⟨bf, 0, none⟩ = some (.int .i64 7) := cell_block HBF.out 0
  have e1 : w3.cell? ⟨bf, 1, none⟩ = some (.int .i64 1) := cell_block HBF.out 1
  have e2 : w3.cell? ⟨bf, 2, none⟩ = some (.slice co 1 cc) := cell_block HBF.out 2
  have e3 : w3.cell? ⟨bf, 3, none⟩ = some (.slice none 0 0) := cell_block HBF.out 3
  go_wp2_with fail
  (with_reducible refine (CD2.out _ (weeks_at' HCO.out)).mono ?_)
  rintro e w4 ⟨rfl, q⟩
  have HW := Lib.hid (HW.out.trans (q.out.mono HW.out.size))
  have HCO := Lib.hid (HCO.out.keep q.out)
  have HBF := Lib.hid (heap_keep HBF.out q.out)
  clear q e0 e1 e2 e3 CD2
  obtain ⟨g1, hg1⟩ : ∃ g, w4.heap.size = g := ⟨_, rfl⟩
  obtain ⟨g2, hg2⟩ : ∃ g, g1 + 1 = g := ⟨_, rfl⟩
  obtain ⟨bn, hbn⟩ : ∃ g, g2 + 1 = g := ⟨_, rfl⟩
  obtain ⟨w5, hw5⟩ : ∃ W, ((w4.alloc (.cells #[.int .i64 7, .int .i64 1, .slice co 1 cc, .slice none 0 0] 25)).alloc (.cells #[.int .i64 0, .int .i64 1, .int .i64 0, .int .i64 1, .int .i64 2, .bool true, .bool true] 42)).alloc (.cells #[.int .i64 2, .slice (some ⟨g1, 0, none⟩) 1 1, .slice (some ⟨g2, 0, none⟩) 1 1] 38) = W := ⟨_, rfl⟩
  have al : ∀ (W : World) (o : Obj) (j : Nat), j < W.heap.size → (W.alloc o).heap[j]? = W.heap[j]? := fun W o j hj => Below.heap_alloc W o j hj
  have K5 : Below w4.heap.size w4 w5 := by rw [← hw5]; exact (((Below.refl _ w4).alloc (Nat.le_refl _) _).alloc (by simp) _).alloc (by simp; omega) _
  have HBN : Hid (w5.heap[bn]? = some (.cells #[.int .i64 2, .slice (some ⟨g1, 0, none⟩) 1 1, .slice (some ⟨g2, 0, none⟩) 1 1] 38 (0, 0))) := Lib.hid (by rw [← hw5]; exact heap_at (by simp; omega))
  have HNA : Hid (Nv.At (awN co cc g1 g2) w5) := Lib.hid (aw_net (HCO.out.keep K5) (by rw [← hw5, al _ _ _ (by simp; omega), al _ _ _ (by simp; omega)]; exact heap_at hg1) (by rw [← hw5, al _ _ _ (by simp; omega)]; exact heap_at (by simp; omega)))
  have HW := Lib.hid (HW.out.trans (K5.mono HW.out.size))
  have e0 : w4.cell? ⟨bf, 0, none⟩ = some (.int .i64 7) := cell_block HBF.out 0
  have e1 : w4.cell? ⟨bf, 1, none⟩ = some (.int .i64 1) := cell_block HBF.out 1
  have e2 : w4.cell? ⟨bf, 2, none⟩ = some (.slice co 1 cc) := cell_block HBF.out 2
  have e3 : w4.cell? ⟨bf, 3, none⟩ = some (.slice none 0 0) := cell_block HBF.out 3
  go_upto_region 5 with fail
  try rw [hw5]
  clear hw5 al K5 hg1 hg2 hbn e0 e1 e2 e3 HBF HCO
  have CF1 : Hid (∀ W g, Nv.At (awN co cc g1 g2) W → W.heap[g]? = some (.cells #[.int .i64 3, .int .i64 4] 3 (0, 0)) → Calls Try.prog 13 #[.agg #[.int .i64 2, .slice (some ⟨g1, 0, none⟩) 1 1, .slice (some ⟨g2, 0, none⟩) 1 1], .slice (some ⟨g, 0, none⟩) 2 2] W fun e w' => ∃ ao c, e = .returned (.tuple #[.slice ao 1 c, .int .i64 0]) ∧ Hid (IzAt w' ao 1 c [0]) ∧ Hid (Below W.heap.size W w')) := Lib.hid (fun W g h1 h2 => (fails_any (awN co cc g1 g2) (some ⟨g, 0, none⟩) 2 2 [3, 4] W h1 (iz_two h2) aw_rt (show 1 ≤ 1000000 by decide) (fun _ => true) (fun i hi => by
      obtain rfl : i = 0 := by simpa using hi
      exact ⟨fun _ z => (by have := (aw_met (g1 := g1) (g2 := g2) (aw_at (k := 0) (by decide) (by decide) (by decide) (by decide)) (aw_at (k := 0) (by decide) (by decide) (by decide) (by decide))).1 z; have := this.2.2.1 rfl; omega), fun _ => rfl⟩)).mono (by
    rintro e w' ⟨⟨v, xs, k, rfl, hx, ho⟩, q⟩
    rcases hx with ⟨n, _⟩ | ⟨_, rfl, rfl⟩
    · exact absurd (aw_own (by decide) (by decide) (by decide) (by decide)) n
    · obtain ⟨ao, c, rfl, hz⟩ := own_iz ho
      exact ⟨ao, c, rfl, Lib.hid hz, q⟩))
  have CF2 : Hid (∀ W g, Nv.At (awN co cc g1 g2) W → W.heap[g]? = some (.cells #[.int .i64 3, .int .i64 5] 3 (0, 0)) → Calls Try.prog 13 #[.agg #[.int .i64 2, .slice (some ⟨g1, 0, none⟩) 1 1, .slice (some ⟨g2, 0, none⟩) 1 1], .slice (some ⟨g, 0, none⟩) 2 2] W fun e w' => ∃ ao c, e = .returned (.tuple #[.slice ao 1 c, .int .i64 0]) ∧ Hid (IzAt w' ao 1 c [0]) ∧ Hid (Below W.heap.size W w')) := Lib.hid (fun W g h1 h2 => (fails_any (awN co cc g1 g2) (some ⟨g, 0, none⟩) 2 2 [3, 5] W h1 (iz_two h2) aw_rt (show 1 ≤ 1000000 by decide) (fun _ => true) (fun i hi => by
      obtain rfl : i = 0 := by simpa using hi
      exact ⟨fun _ z => (by have := (aw_met (g1 := g1) (g2 := g2) (aw_at (k := 0) (by decide) (by decide) (by decide) (by decide)) aw_5).1 z; have := this.2.1; cases this), fun _ => rfl⟩)).mono (by
    rintro e w' ⟨⟨v, xs, k, rfl, hx, ho⟩, q⟩
    rcases hx with ⟨n, _⟩ | ⟨_, rfl, rfl⟩
    · exact absurd (aw_own (by decide) (by decide) (by decide) (by decide)) n
    · obtain ⟨ao, c, rfl, hz⟩ := own_iz ho
      exact ⟨ao, c, rfl, Lib.hid hz, q⟩))
  have e0 : w5.cell? ⟨bn, 0, none⟩ = some (.int .i64 2) := cell_block HBN.out 0
  have e1 : w5.cell? ⟨bn, 1, none⟩ = some (.slice (some ⟨g1, 0, none⟩) 1 1) := cell_block HBN.out 1
  have e2 : w5.cell? ⟨bn, 2, none⟩ = some (.slice (some ⟨g2, 0, none⟩) 1 1) := cell_block HBN.out 2
  obtain ⟨s5, hs5⟩ : ∃ s, w5.heap.size = s := ⟨_, rfl⟩
  obtain ⟨a5, ha5⟩ : ∃ W, w5.alloc (.cells #[.int .i64 3, .int .i64 4] 3) = W := ⟨_, rfl⟩
  have KA : Below w5.heap.size w5 a5 := by rw [← ha5]; exact (Below.refl _ _).alloc (Nat.le_refl _) _
  have HG : Hid (a5.heap[s5]? = some (.cells #[.int .i64 3, .int .i64 4] 3 (0, 0))) := Lib.hid (by rw [← ha5]; exact heap_at hs5)
  go_wp2_with fail
  clear e0 e1 e2
  have HW := Lib.hid (HW.out.trans (KA.mono HW.out.size))
  have HNA := Lib.hid (HNA.out.keep KA)
  have HBN := Lib.hid (heap_keep HBN.out KA)
  clear hs5 ha5 KA
  (with_reducible refine (CF1.out _ _ HNA.out HG.out).mono ?_)
  rintro e w6 ⟨ao5, c5, rfl, HZ1, q⟩
  have HW := Lib.hid (HW.out.trans (q.out.mono HW.out.size))
  have HNA := Lib.hid (HNA.out.keep q.out)
  have HBN := Lib.hid (heap_keep HBN.out q.out)
  clear q HG CF1
  have e0 : w6.cell? ⟨bn, 0, none⟩ = some (.int .i64 2) := cell_block HBN.out 0
  have e1 : w6.cell? ⟨bn, 1, none⟩ = some (.slice (some ⟨g1, 0, none⟩) 1 1) := cell_block HBN.out 1
  have e2 : w6.cell? ⟨bn, 2, none⟩ = some (.slice (some ⟨g2, 0, none⟩) 1 1) := cell_block HBN.out 2
  obtain ⟨s6, hs6⟩ : ∃ s, w6.heap.size = s := ⟨_, rfl⟩
  obtain ⟨a6, ha6⟩ : ∃ W, w6.alloc (.cells #[.int .i64 3, .int .i64 5] 3) = W := ⟨_, rfl⟩
  have KA : Below w6.heap.size w6 a6 := by rw [← ha6]; exact (Below.refl _ _).alloc (Nat.le_refl _) _
  have HG : Hid (a6.heap[s6]? = some (.cells #[.int .i64 3, .int .i64 5] 3 (0, 0))) := Lib.hid (by rw [← ha6]; exact heap_at hs6)
  go_wp2_with fail
  clear e0 e1 e2
  have HW := Lib.hid (HW.out.trans (KA.mono HW.out.size))
  have HNA := Lib.hid (HNA.out.keep KA)
  have HBN := Lib.hid (heap_keep HBN.out KA)
  have HZ1 := Lib.hid (HZ1.out.keep KA)
  clear hs6 ha6 KA
  (with_reducible refine (CF2.out _ _ HNA.out HG.out).mono ?_)
  rintro e w7 ⟨ao6, c6, rfl, HZ2, q⟩
  have HW := Lib.hid (HW.out.trans (q.out.mono HW.out.size))
  have HNA := Lib.hid (HNA.out.keep q.out)
  have HBN := Lib.hid (heap_keep HBN.out q.out)
  have HZ1 := Lib.hid (HZ1.out.keep q.out)
  clear q HG CF2
  have e0 : w7.cell? ⟨bn, 0, none⟩ = some (.int .i64 2) := cell_block HBN.out 0
  have e1 : w7.cell? ⟨bn, 1, none⟩ = some (.slice (some ⟨g1, 0, none⟩) 1 1) := cell_block HBN.out 1
  have e2 : w7.cell? ⟨bn, 2, none⟩ = some (.slice (some ⟨g2, 0, none⟩) 1 1) := cell_block HBN.out 2
  have CR : Hid (∀ W, Nv.At (awN co cc g1 g2) W → Calls Try.prog 22 #[.agg #[.int .i64 2, .slice (some ⟨g1, 0, none⟩) 1 1, .slice (some ⟨g2, 0, none⟩) 1 1]] W fun e w' => e = .returned (.int .i64 0) ∧ Hid (Below W.heap.size W w')) := Lib.hid (fun W h => right_net (awN co cc g1 g2) W h (fun F hF => by rw [List.mem_singleton.1 hF]; exact aw_small) true ⟨fun _ => aw_right, fun _ => rfl⟩)
  have CH : Hid (∀ W g, Nv.At (awN co cc g1 g2) W → W.heap[g]? = some (.cells #[.int .i64 3, .int .i64 9] 3 (0, 0)) → Calls Try.prog 15 #[.agg #[.int .i64 2, .slice (some ⟨g1, 0, none⟩) 1 1, .slice (some ⟨g2, 0, none⟩) 1 1], .slice (some ⟨g, 0, none⟩) 2 2] W fun e w' => e = .returned (.bool true) ∧ Hid (Below W.heap.size W w')) := Lib.hid (fun W g h1 h2 => holds_any (awN co cc g1 g2) (some ⟨g, 0, none⟩) 2 2 [3, 9] W h1 (iz_two h2) aw_rt (show 1 ≤ 1000000 by decide) (fun _ => false) (fun i hi => by
      obtain rfl : i = 0 := by simpa using hi
      exact ⟨(fun z => by cases z), fun z => absurd ((aw_met (g1 := g1) (g2 := g2) (aw_at (k := 0) (by decide) (by decide) (by decide) (by decide)) (aw_at (k := 1) (by decide) (by decide) (by decide) (by decide))).2 ⟨rfl, rfl, fun _ => by decide, fun _ => by decide⟩) z⟩) true ⟨fun _ => ⟨aw_own (by decide) (by decide) (by decide) (by decide), fun c hc => by
      rw [List.mem_singleton.1 hc]
      exact (aw_met (g1 := g1) (g2 := g2) (aw_at (k := 0) (by decide) (by decide) (by decide) (by decide)) (aw_at (k := 1) (by decide) (by decide) (by decide) (by decide))).2 ⟨rfl, rfl, fun _ => by decide, fun _ => by decide⟩⟩, fun _ => rfl⟩)
  go_wp2_with fail
  (with_reducible refine (CR.out _ HNA.out).mono ?_)
  rintro e w8 ⟨rfl, q⟩
  clear e0 e1 e2
  have HW := Lib.hid (HW.out.trans (q.out.mono HW.out.size))
  have HNA := Lib.hid (HNA.out.keep q.out)
  have HBN := Lib.hid (heap_keep HBN.out q.out)
  have HZ1 := Lib.hid (HZ1.out.keep q.out)
  have HZ2 := Lib.hid (HZ2.out.keep q.out)
  clear q CR
  have e0 : w8.cell? ⟨bn, 0, none⟩ = some (.int .i64 2) := cell_block HBN.out 0
  have e1 : w8.cell? ⟨bn, 1, none⟩ = some (.slice (some ⟨g1, 0, none⟩) 1 1) := cell_block HBN.out 1
  have e2 : w8.cell? ⟨bn, 2, none⟩ = some (.slice (some ⟨g2, 0, none⟩) 1 1) := cell_block HBN.out 2
  obtain ⟨s8, hs8⟩ : ∃ s, w8.heap.size = s := ⟨_, rfl⟩
  obtain ⟨a8, ha8⟩ : ∃ W, w8.alloc (.cells #[.int .i64 3, .int .i64 9] 3) = W := ⟨_, rfl⟩
  have KA : Below w8.heap.size w8 a8 := by rw [← ha8]; exact (Below.refl _ _).alloc (Nat.le_refl _) _
  have HG : Hid (a8.heap[s8]? = some (.cells #[.int .i64 3, .int .i64 9] 3 (0, 0))) := Lib.hid (by rw [← ha8]; exact heap_at hs8)
  go_wp2_with fail
  clear e0 e1 e2
  have HW := Lib.hid (HW.out.trans (KA.mono HW.out.size))
  have HNA := Lib.hid (HNA.out.keep KA)
  have HBN := Lib.hid (heap_keep HBN.out KA)
  have HZ1 := Lib.hid (HZ1.out.keep KA)
  have HZ2 := Lib.hid (HZ2.out.keep KA)
  clear hs8 ha8 KA
  (with_reducible refine (CH.out _ _ HNA.out HG.out).mono ?_)
  rintro e w9 ⟨rfl, q⟩
  have HW := Lib.hid (HW.out.trans (q.out.mono HW.out.size))
  have HNA := Lib.hid (HNA.out.keep q.out)
  have HBN := Lib.hid (heap_keep HBN.out q.out)
  have HZ1 := Lib.hid (HZ1.out.keep q.out)
  have HZ2 := Lib.hid (HZ2.out.keep q.out)
  clear q HG CH
  obtain ⟨s9, hs9⟩ : ∃ s, w9.heap.size = s := ⟨_, rfl⟩
  obtain ⟨a9, ha9⟩ : ∃ W, w9.alloc (.cells #[.int .i64 0] 3) = W := ⟨_, rfl⟩
  have KA : Below w9.heap.size w9 a9 := by rw [← ha9]; exact (Below.refl _ _).alloc (Nat.le_refl _) _
  have HG : Hid (a9.heap[s9]? = some (.cells #[.int .i64 0] 3 (0, 0))) := Lib.hid (by rw [← ha9]; exact heap_at hs9)
  go_wp2_with fail
  have HW := Lib.hid (HW.out.trans (KA.mono HW.out.size))
  have HNA := Lib.hid (HNA.out.keep KA)
  have HBN := Lib.hid (heap_keep HBN.out KA)
  have HZ1 := Lib.hid (HZ1.out.keep KA)
  have HZ2 := Lib.hid (HZ2.out.keep KA)
  clear hs9 ha9 KA
  (with_reducible refine (ints_any ao5 _ 1 c5 1 1 [0] [0] _ HZ1.out (iz_zero HG.out) true ⟨fun _ => rfl, fun _ => rfl⟩).mono ?_)
  rintro e w10 ⟨rfl, q⟩
  have HW := Lib.hid (HW.out.trans (q.mono HW.out.size))
  have HNA := Lib.hid (HNA.out.keep q)
  have HBN := Lib.hid (heap_keep HBN.out q)
  have HZ1 := Lib.hid (HZ1.out.keep q)
  have HZ2 := Lib.hid (HZ2.out.keep q)
  clear q HG
  obtain ⟨s10, hs10⟩ : ∃ s, w10.heap.size = s := ⟨_, rfl⟩
  obtain ⟨a10, ha10⟩ : ∃ W, w10.alloc (.cells #[.int .i64 0] 3) = W := ⟨_, rfl⟩
  have KA : Below w10.heap.size w10 a10 := by rw [← ha10]; exact (Below.refl _ _).alloc (Nat.le_refl _) _
  have HG : Hid (a10.heap[s10]? = some (.cells #[.int .i64 0] 3 (0, 0))) := Lib.hid (by rw [← ha10]; exact heap_at hs10)
  go_wp2_with fail
  have HW := Lib.hid (HW.out.trans (KA.mono HW.out.size))
  have HNA := Lib.hid (HNA.out.keep KA)
  have HBN := Lib.hid (heap_keep HBN.out KA)
  have HZ1 := Lib.hid (HZ1.out.keep KA)
  have HZ2 := Lib.hid (HZ2.out.keep KA)
  clear hs10 ha10 KA
  (with_reducible refine (ints_any ao6 _ 1 c6 1 1 [0] [0] _ HZ2.out (iz_zero HG.out) true ⟨fun _ => rfl, fun _ => rfl⟩).mono ?_)
  rintro e w11 ⟨rfl, q⟩
  have HW := Lib.hid (HW.out.trans (q.mono HW.out.size))
  have HNA := Lib.hid (HNA.out.keep q)
  have HBN := Lib.hid (heap_keep HBN.out q)
  have HZ1 := Lib.hid (HZ1.out.keep q)
  have HZ2 := Lib.hid (HZ2.out.keep q)
  clear q HG
  go_wp2
  go_returns
  exact ⟨rfl, HW.out⟩
end Go.Proofs.Ytaobhhgalkkmaaa
