/- M6, M7, C4, C5 in one. -/
import Derived.Test.YtmjapbjjfhmohaaKk
import Derived.Test.YtmjapbjjfhmohaaKr
import Derived.Test.YtmjapbjjfhmohaaKo
import Derived.Test.YtmjapbjjfhmohaaKc
import Derived.Deep.AppendLies
namespace Go.Proofs.Ytmjapbjjfhmohaa
set_option linter.unusedVariables false
set_option linter.unusedSimpArgs false
open Go.ChangeShapes Go.WideShapes Go.ChangeAt Go.RowKit
def Fv.Mid (F : Fv) : Prop := F.cn ≤ 6000 ∧ F.on ≤ 6000 ∧ F.size ≤ 60000
theorem Fv.Small.mid {F : Fv} (h : F.Small) : F.Mid := ⟨Nat.le_trans h.1 (by omega), Nat.le_trans h.2.1 (by omega), Nat.le_trans h.2.2 (by omega)⟩
theorem ok_mid {F : Fv} (hs : F.Mid) (h1 : F.Meas) (h2 : ∀ l ∈ F.cs, Good l) (h3 : OddOk F.os) : F.Ok := by
  obtain ⟨a, b, c⟩ := hs
  unfold Fv.size at c
  refine ⟨h1, h2, h3, fun l hl => ?_, fun o ho => ?_, by omega, by omega⟩
  · have := le_lens hl; omega
  · have := le_lens (ls := tks F.os) (List.mem_map.2 ⟨o, ho, rfl⟩); omega
theorem Fv.Rt.okm {F : Fv} (h : F.Rt) (hs : F.Mid) : F.Ok := ok_mid hs h.meas h.core h.odd
set_option maxHeartbeats 2000000 in
theorem right_mid (F : Fv) (w : World) (hF : F.At w) (hs : F.Mid) (r : Bool) (hr : r = true ↔ F.Rt) :
    Calls Try.prog 18 #[F.v] w fun e w' => e = .returned (.int .i64 (rcode r)) ∧ Below w.heap.size w w' := by
  have HSM := Lib.hid hs
  have HR := Lib.hid hr
  have k1 := hs.1
  have k2 := hs.2.1
  have k3 := hs.2.2
  have HSZ := Lib.hid (fun W (h : F.At W) => size_any F W h (by omega) (by omega))
  obtain ⟨S, hS⟩ : ∃ q, F.size = q := ⟨_, rfl⟩
  rw [hS] at HSZ k3
  obtain ⟨r1, hr1⟩ : ∃ r : Bool, r = true ↔ F.Meas := by classical exact ⟨decide _, decide_eq_true_iff⟩
  obtain ⟨r2, hr2⟩ : ∃ r : Bool, r = true ↔ (∀ l ∈ F.cs, Good l) ∧ OddOk F.os := by classical exact ⟨decide _, decide_eq_true_iff⟩
  obtain ⟨r3, hr3⟩ : ∃ r : Bool, r = true ↔ RisOk F.cs F.P := by classical exact ⟨decide _, decide_eq_true_iff⟩
  obtain ⟨r4, hr4⟩ : ∃ r : Bool, r = true ↔ FitOk F := by classical exact ⟨decide _, decide_eq_true_iff⟩
  have HC1 := Lib.hid (fun W (h : F.At W) => measured_any F W h r1 hr1)
  have HC2 := Lib.hid (fun W (h : F.At W) => listed_any F W h r2 hr2)
  have HC3 := Lib.hid (fun (q1 : r1 = true) (q2 : r2 = true) W (h : F.At W) => rising_any F W h (hr2.1 q2).1 (meas_P (hr1.1 q1)).1 (meas_P (hr1.1 q1)).2 r3 hr3)
  have HC4 := Lib.hid (fun (q1 : r1 = true) (q2 : r2 = true) W (h : F.At W) => fitting_any F W h (ok_mid hs (hr1.1 q1) (hr2.1 q2).1 (hr2.1 q2).2) r4 hr4)
  have HN : Hid (r = (r1 && r2 && r3 && r4)) := Lib.hid (by
    have h : F.Rt ↔ (r1 && r2 && r3 && r4) = true := by
      simp only [Bool.and_eq_true, hr1, hr2, hr3, hr4]
      exact ⟨fun h => ⟨⟨⟨h.meas, h.core, h.odd⟩, h.ris⟩, h.fit⟩, fun h => ⟨h.1.1.1, h.1.1.2.1, h.1.1.2.2, h.1.2, h.2⟩⟩
    have h2 := hr.trans h
    cases r <;> cases hq : (r1 && r2 && r3 && r4) <;> simp_all)
  clear hr hr1 hr2 hr3 hr4 hS hs HR HSM
  obtain ⟨P, N, co, cn, cc, oo, on, oc, cs, os⟩ := F
  have LC : Hid (cs.length = cn) := Lib.hid hF.core.len
  have LO : Hid (os.length = on) := Lib.hid hF.odd.len
  have hmc : cn ≤ 9223372036854775807 := Nat.le_trans hF.core.le hF.core.top
  have hmo : on ≤ 9223372036854775807 := Nat.le_trans hF.odd.le hF.odd.top
  obtain ⟨b, hb⟩ : ∃ b, w.heap.size = b := ⟨_, rfl⟩
  obtain ⟨wb, hwb⟩ : ∃ wb, w.alloc (.cells #[.int .i64 P, .int .i64 N, .slice co cn cc, .slice oo on oc] 25) = wb := ⟨_, rfl⟩
  have HBB : Hid (Fbox ⟨P, N, co, cn, cc, oo, on, oc, cs, os⟩ w wb b) := Lib.hid (by rw [← hwb, ← hb]; exact fbox_new hF)
  clear hF
  show Calls Try.prog 18 #[.agg #[.int .i64 P, .int .i64 N, .slice co cn cc, .slice oo on oc]] w _
  go_enter Try.func18, Try.ntmps18
  go_upto_region 1 with fail
  clear hwb hb
  have e0 : wb.cell? ⟨b, 0, none⟩ = some (.int .i64 P) := HBB.out.c0
  have e1 : wb.cell? ⟨b, 1, none⟩ = some (.int .i64 N) := HBB.out.c1
  have e2 : wb.cell? ⟨b, 2, none⟩ = some (.slice co cn cc) := HBB.out.c2
  have e3 : wb.cell? ⟨b, 3, none⟩ = some (.slice oo on oc) := HBB.out.c3
  have HSZ : Hid (∀ W, Fv.At ⟨P, N, co, cn, cc, oo, on, oc, cs, os⟩ W → Calls Try.prog 41 #[.agg #[.int .i64 P, .int .i64 N, .slice co cn cc, .slice oo on oc]] W fun e w' => e = .returned (.int .i64 (S : Nat)) ∧ Below W.heap.size W w') := HSZ
  have HC1 : Hid (∀ W, Fv.At ⟨P, N, co, cn, cc, oo, on, oc, cs, os⟩ W → Calls Try.prog 42 #[.agg #[.int .i64 P, .int .i64 N, .slice co cn cc, .slice oo on oc]] W fun e w' => e = .returned (.bool r1) ∧ Below W.heap.size W w') := HC1
  have HC2 : Hid (∀ W, Fv.At ⟨P, N, co, cn, cc, oo, on, oc, cs, os⟩ W → Calls Try.prog 43 #[.agg #[.int .i64 P, .int .i64 N, .slice co cn cc, .slice oo on oc]] W fun e w' => e = .returned (.bool r2) ∧ Below W.heap.size W w') := HC2
  have HC3 : Hid (r1 = true → r2 = true → ∀ W, Fv.At ⟨P, N, co, cn, cc, oo, on, oc, cs, os⟩ W → Calls Try.prog 44 #[.agg #[.int .i64 P, .int .i64 N, .slice co cn cc, .slice oo on oc]] W fun e w' => e = .returned (.bool r3) ∧ Below W.heap.size W w') := HC3
  have HC4 : Hid (r1 = true → r2 = true → ∀ W, Fv.At ⟨P, N, co, cn, cc, oo, on, oc, cs, os⟩ W → Calls Try.prog 45 #[.agg #[.int .i64 P, .int .i64 N, .slice co cn cc, .slice oo on oc]] W fun e w' => e = .returned (.bool r4) ∧ Below W.heap.size W w') := HC4
  have k1 : cn ≤ 6000 := k1
  have k2 : on ≤ 6000 := k2
  have t1 : (cn : Int) ≤ 6000 := by omega
  have t2 : (on : Int) ≤ 6000 := by omega
  have t3 : (S : Int) ≤ 60000 := by omega
  go_wp2_with fail
  (with_reducible refine (HSZ.out _ HBB.out.at_).mono ?_)
  rintro e w2 ⟨rfl, q⟩
  have HBB := Lib.hid (HBB.out.keep q)
  clear q e0 e1 e2 e3 HSZ
  have e0 : w2.cell? ⟨b, 0, none⟩ = some (.int .i64 P) := HBB.out.c0
  have e1 : w2.cell? ⟨b, 1, none⟩ = some (.int .i64 N) := HBB.out.c1
  have e2 : w2.cell? ⟨b, 2, none⟩ = some (.slice co cn cc) := HBB.out.c2
  have e3 : w2.cell? ⟨b, 3, none⟩ = some (.slice oo on oc) := HBB.out.c3
  go_wp2_with fail
  (with_reducible refine (HC1.out _ HBB.out.at_).mono ?_)
  rintro e w3 ⟨rfl, q⟩
  have HBB := Lib.hid (HBB.out.keep q)
  clear q e0 e1 e2 e3
  cases r1
  · have HE : Hid (r = false) := Lib.hid (by rw [HN.out]; simp)
    clear HN
    go_wp2
    go_returns
    exact ⟨ret_int (by rw [HE.out]; rfl), HBB.out.bw⟩
  · skip
    have e0 : w3.cell? ⟨b, 0, none⟩ = some (.int .i64 P) := HBB.out.c0
    have e1 : w3.cell? ⟨b, 1, none⟩ = some (.int .i64 N) := HBB.out.c1
    have e2 : w3.cell? ⟨b, 2, none⟩ = some (.slice co cn cc) := HBB.out.c2
    have e3 : w3.cell? ⟨b, 3, none⟩ = some (.slice oo on oc) := HBB.out.c3
    go_wp2_with fail
    (with_reducible refine (HC2.out _ HBB.out.at_).mono ?_)
    rintro e w4 ⟨rfl, q⟩
    have HBB := Lib.hid (HBB.out.keep q)
    clear q e0 e1 e2 e3
    cases r2
    · have HE : Hid (r = false) := Lib.hid (by rw [HN.out]; simp)
      clear HN
      go_wp2
      go_returns
      exact ⟨ret_int (by rw [HE.out]; rfl), HBB.out.bw⟩
    · skip
      have e0 : w4.cell? ⟨b, 0, none⟩ = some (.int .i64 P) := HBB.out.c0
      have e1 : w4.cell? ⟨b, 1, none⟩ = some (.int .i64 N) := HBB.out.c1
      have e2 : w4.cell? ⟨b, 2, none⟩ = some (.slice co cn cc) := HBB.out.c2
      have e3 : w4.cell? ⟨b, 3, none⟩ = some (.slice oo on oc) := HBB.out.c3
      go_wp2_with fail
      (with_reducible refine (HC3.out (by first | rfl | trivial) (by first | rfl | trivial) _ HBB.out.at_).mono ?_)
      rintro e w5 ⟨rfl, q⟩
      have HBB := Lib.hid (HBB.out.keep q)
      clear q e0 e1 e2 e3
      cases r3
      · have HE : Hid (r = false) := Lib.hid (by rw [HN.out]; simp)
        clear HN
        go_wp2
        go_returns
        exact ⟨ret_int (by rw [HE.out]; rfl), HBB.out.bw⟩
      · skip
        have e0 : w5.cell? ⟨b, 0, none⟩ = some (.int .i64 P) := HBB.out.c0
        have e1 : w5.cell? ⟨b, 1, none⟩ = some (.int .i64 N) := HBB.out.c1
        have e2 : w5.cell? ⟨b, 2, none⟩ = some (.slice co cn cc) := HBB.out.c2
        have e3 : w5.cell? ⟨b, 3, none⟩ = some (.slice oo on oc) := HBB.out.c3
        go_wp2_with fail
        (with_reducible refine (HC4.out (by first | rfl | trivial) (by first | rfl | trivial) _ HBB.out.at_).mono ?_)
        rintro e w6 ⟨rfl, q⟩
        have HBB := Lib.hid (HBB.out.keep q)
        clear q e0 e1 e2 e3
        cases r4
        · have HE : Hid (r = false) := Lib.hid (by rw [HN.out]; simp)
          clear HN
          go_wp2
          go_returns
          exact ⟨ret_int (by rw [HE.out]; rfl), HBB.out.bw⟩
        · have HE : Hid (r = true) := Lib.hid (by rw [HN.out]; rfl)
          clear HN
          go_wp2
          go_returns
          exact ⟨ret_int (by rw [HE.out]; rfl), HBB.out.bw⟩
theorem isC_any (F : Fv) (X : Int) (lo : Option Addr) (lm ld : Nat) (L : List Sp) (w0 w : World) (b : Nat) (hF : Fbox F w0 w b) (ok : F.Ok) (hL : SpAt w lo lm ld L) (gL : Good L) (hX : InR X) (r : Bool) (hr : r = true ↔ L = cg F.cs F.P F.N X) :
    Calls Try.prog 37 #[.agg #[.int .i64 X, .slice lo lm ld], .pointer (some ⟨b, 0, none⟩)] w fun e w' => e = .returned (.bool r) ∧ Below w.heap.size w w' := by
  have KA := (Below.refl _ w).alloc (Nat.le_refl _) (.cells #[.int .i64 X, .slice lo lm ld] 52)
  obtain ⟨wb, hwb⟩ : ∃ wb, w.alloc (.cells #[.int .i64 X, .slice lo lm ld] 52) = wb := ⟨_, rfl⟩
  obtain ⟨x0, x1⟩ := box_cells w (.int .i64 X) (.slice lo lm ld) 52
  rw [hwb] at KA x0 x1
  have HU := Lib.hid (usual_any F X lo lm ld L wb (hF.at_.keep KA) ok (hL.keep KA) gL hX r hr)
  have e0 := cell_keep hF.c0 KA
  have e1 := cell_keep hF.c1 KA
  have e2 := cell_keep hF.c2 KA
  have e3 := cell_keep hF.c3 KA
  have HK := Lib.hid KA
  clear hF ok hL gL hX hr KA
  obtain ⟨P, N, co, cn, cc, oo, on, oc, cs, os⟩ := F
  have HU : Hid (Calls Try.prog 38 #[.agg #[.int .i64 P, .int .i64 N, .slice co cn cc, .slice oo on oc], .agg #[.int .i64 X, .slice lo lm ld]] wb fun e w' => e = .returned (.bool r) ∧ Below wb.heap.size wb w') := HU
  dsimp only at e0 e1 e2 e3
  go_enter Try.func37, Try.ntmps37
  go_wp2_with fail
  (with_reducible refine HU.out.mono ?_)
  rintro e w1 ⟨rfl, q⟩
  have HQ := Lib.hid q
  clear q
  go_wp2
  go_returns
  exact ⟨rfl, HK.out.trans (HQ.out.mono HK.out.size)⟩
set_option maxHeartbeats 1000000 in
theorem indexUsual_any (F : Fv) (w0 w : World) (b : Nat) (hF : Fbox F w0 w b) (ok : F.Ok) :
    Calls Try.prog 61 #[.slice F.oo F.on F.oc, .func (.func 37) #[] #[.pointer (some ⟨b, 0, none⟩)]] w fun e w' => ∃ k : Int, e = .returned (.int .i64 k) ∧ Hid ((k < 0 ∧ ∀ o ∈ F.os, o.2 ≠ cg F.cs F.P F.N o.1) ∨ (0 ≤ k ∧ ∃ o ∈ F.os, o.2 = cg F.cs F.P F.N o.1)) ∧ Below w.heap.size w w' := by
  have HF := Lib.hid hF
  have HO := Lib.hid ok.odd
  have LO := Lib.hid hF.at_.odd.len
  have HIS := Lib.hid (fun W (h : Below w.heap.size w W) X lo lm ld L (hL : SpAt W lo lm ld L) gL hX r hr => isC_any F X lo lm ld L w0 W b (hF.keep h) ok hL gL hX r hr)
  have hmx : F.on ≤ 9223372036854775807 := Nat.le_trans hF.at_.odd.le hF.at_.odd.top
  clear hF ok
  obtain ⟨P, N, co, cn, cc, oo, on, oc, cs, os⟩ := F
  have LO : Hid (os.length = on) := LO
  have HO : Hid (OddOk os) := HO
  have hmx : on ≤ 9223372036854775807 := hmx
  show Calls Try.prog 61 #[.slice oo on oc, .func (.func 37) #[] #[.pointer (some ⟨b, 0, none⟩)]] w fun e w' => ∃ k : Int, e = .returned (.int .i64 k) ∧ Hid ((k < 0 ∧ ∀ o ∈ os, o.2 ≠ cg cs P N o.1) ∨ (0 ≤ k ∧ ∃ o ∈ os, o.2 = cg cs P N o.1)) ∧ Below w.heap.size w w'
  go_enter Try.func61, Try.ntmps61
  go_wp2
  go_loopw [8] (fun ii wr => ∃ i : Nat, i ≤ on ∧ ii = .int .i64 i ∧ Hid (∀ o ∈ os.take i, o.2 ≠ cg cs P N o.1) ∧ Hid (Below w.heap.size w wr)) (fun ii _ => on - (intOf ii).toNat)
  case atStart => exact ⟨0, Nat.zero_le _, rfl, Lib.hid (fun l h => by cases h), Lib.hid (Below.refl _ _)⟩
  case round =>
    obtain ⟨i, hi, rfl, HG, HW⟩ := hrel
    by_cases ilt : i < on
    · have HCW := (show OdAt wr oo on oc os from (HF.out.keep HW.out).at_.odd)
      obtain ⟨g, p, rfl, hc⟩ := HCW.here (by omega)
      have hil : i < os.length := by rw [LO.out]; exact ilt
      obtain ⟨d1, ⟨o, m, d, d2, d3⟩, d4, d5⟩ := hc i hil
      have hgd := HO.out.good _ (List.getElem_mem hil)
      obtain ⟨r, hr⟩ : ∃ r : Bool, r = true ↔ os[i].2 = cg cs P N os[i].1 := by classical exact ⟨decide _, decide_eq_true_iff⟩
      have HD := Lib.hid (HIS.out wr HW.out os[i].1 o m d os[i].2 d3 hgd.1 hgd.2 r hr)
      have i0 : (0 : Int) ≤ (i : Int) := by omega
      have i1 : (i : Int) < (on : Int) := by omega
      have HM := Lib.hid (List.getElem_mem hil)
      have HR := Lib.hid hr
      have HTS := Lib.hid (List.take_succ_eq_append_getElem hil)
      obtain ⟨X, hX⟩ : ∃ X, os[i].1 = X := ⟨_, rfl⟩
      rw [hX] at d1 HD
      clear hc d3 hr HCW hgd
      cases r
      · have HG2 : Hid (∀ l ∈ os.take (i + 1), l.2 ≠ cg cs P N l.1) := Lib.hid (fun l hl => by
          rw [HTS.out] at hl
          rcases List.mem_append.1 hl with h | h
          · exact HG.out l h
          · rw [List.mem_singleton.1 h]
            exact fun z => by have := HR.out.2 z; cases this)
        clear HR HM HTS d4 d5 hX
        clear hil
        go_wp2_with fail
        (with_reducible refine HD.out.mono ?_)
        rintro e w2 ⟨rfl, q⟩
        have HW2 := Lib.hid (HW.out.trans (q.mono HW.out.size))
        clear q d1 d2
        go_wp2
        go_roundw
        case rel => exact ⟨i + 1, by omega, by go_num, HG2, HW2⟩
        case measure => simp [intOf]; omega
      · have HNO : Hid (∃ o ∈ os, o.2 = cg cs P N o.1) := Lib.hid ⟨_, HM.out, HR.out.1 rfl⟩
        clear HR HM HTS d4 d5 hX
        clear hil
        go_wp2_with fail
        (with_reducible refine HD.out.mono ?_)
        rintro e w2 ⟨rfl, q⟩
        have HW2 := Lib.hid (HW.out.trans (q.mono HW.out.size))
        clear q d1 d2
        go_wp2
        go_returns
        exact ⟨_, rfl, Lib.hid (.inr ⟨by omega, HNO.out⟩), HW2.out⟩
    · obtain rfl : on = i := by omega
      have HA : Hid (∀ o ∈ os, o.2 ≠ cg cs P N o.1) := Lib.hid (by
        have h := HG.out
        rw [List.take_of_length_le (by rw [LO.out]; exact Nat.le_refl _)] at h
        exact h)
      go_wp2
      go_returns
      exact ⟨_, rfl, Lib.hid (.inl ⟨by omega, HA.out⟩), HW.out⟩
theorem containsUsual_any (F : Fv) (w0 w : World) (b : Nat) (hF : Fbox F w0 w b) (ok : F.Ok) (r : Bool) (hr : r = true ↔ ∃ o ∈ F.os, o.2 = cg F.cs F.P F.N o.1) :
    Calls Try.prog 36 #[.slice F.oo F.on F.oc, .func (.func 37) #[] #[.pointer (some ⟨b, 0, none⟩)]] w fun e w' => e = .returned (.bool r) ∧ Below w.heap.size w w' := by
  have K := Lib.hid (indexUsual_any F w0 w b hF ok)
  have HR := Lib.hid hr
  clear hF ok hr
  go_enter Try.func36, Try.ntmps36
  go_wp2_with fail
  (with_reducible refine K.out.mono ?_)
  rintro e w1 ⟨k, rfl, HK, q⟩
  rcases HK.out with ⟨h1, h2⟩ | ⟨h1, h2⟩
  · have HE : Hid (r = false) := Lib.hid (by
      cases r
      · rfl
      · obtain ⟨l, hl, hn⟩ := HR.out.1 rfl
        exact absurd hn (h2 l hl))
    have t1 : ¬ 0 ≤ k := by omega
    clear h2 HK
    go_wp2
    go_returns
    exact ⟨ret_bool (by rw [HE.out]; (first | done | (simp; done) | (simp; omega))), q⟩
  · have HE : Hid (r = true) := Lib.hid (HR.out.2 h2)
    clear h2 HK
    go_wp2
    go_returns
    exact ⟨ret_bool (by rw [HE.out]; (first | done | (simp; done) | (simp; omega))), q⟩
theorem co_start {w0 w : World} {B n : Nat} {v : Value} {vs : List Value} {ls : List (List Sp)} (h : w.ownsRow B 34 1 v n vs) (hl : ls.length = n) (hv : VsCo w0 vs ls) : CoHalf w0 w B v n ls 0 :=
  ⟨hl, vs, h, fun j hj q => absurd q (Nat.not_lt_zero _), fun j hj _ => hv.at_ j hj⟩
set_option maxRecDepth 8000 in
set_option maxHeartbeats 4000000 in
theorem copy_any (F : Fv) (w : World) (hF : F.At w) (h1 : F.cn ≤ 1000000) (h2 : F.on ≤ 1000000) (h3 : ∀ l ∈ F.cs, l.length ≤ 1000000) (h4 : ∀ o ∈ F.os, o.2.length ≤ 1000000) :
    Calls Try.prog 39 #[F.v] w fun e w' => ∃ vc vo, e = .returned (.agg #[.int .i64 F.P, .int .i64 F.N, vc, vo]) ∧ Hid (CoOwn w' w.heap.size vc F.cn F.cs ∧ OdOwn w' w.heap.size vo F.on F.os) ∧ Hid (Below w.heap.size w w') := by
  obtain ⟨P, N, co, cn, cc, oo, on, oc, cs, os⟩ := F
  have LC : Hid (cs.length = cn) := Lib.hid hF.core.len
  have LO : Hid (os.length = on) := Lib.hid hF.odd.len
  have h1 : cn ≤ 1000000 := h1
  have h2 : on ≤ 1000000 := h2
  have S1 : Hid (∀ l ∈ cs, l.length ≤ 1000000) := Lib.hid h3
  have S2 : Hid (∀ o ∈ os, o.2.length ≤ 1000000) := Lib.hid h4
  have hmc : cn ≤ 9223372036854775807 := by omega
  have hmo : on ≤ 9223372036854775807 := by omega
  clear h3 h4
  obtain ⟨b, hb⟩ : ∃ b, w.heap.size = b := ⟨_, rfl⟩
  obtain ⟨ro, hro⟩ : ∃ ro, b + 1 = ro := ⟨_, rfl⟩
  obtain ⟨wc, hwc⟩ : ∃ wc, (w.alloc (.cells #[.int .i64 P, .int .i64 N, .slice co cn cc, .slice oo on oc] 25)).alloc (.cells #[.int .i64 0, .int .i64 0, .slice none 0 0, .slice none 0 0] 25) = wc := ⟨_, rfl⟩
  have HP : Hid (Cp ⟨P, N, co, cn, cc, oo, on, oc, cs, os⟩ w wc b ro (b + 2) (.slice co cn cc) (.slice oo on oc)) := Lib.hid (by
    refine ⟨hF, ?_, by omega, by omega, by omega, by omega, by omega, ?_, ?_, ?_⟩
    · rw [← hwc]; exact ((Below.refl _ w).alloc (Nat.le_refl _) _).alloc (by simp) _
    · rw [← hwc]; simp; omega
    · rw [← hwc, ← hb, heap_alloc_old _ _ (by simp), heap_alloc_new]
    · rw [← hwc, ← hro, ← hb, show w.heap.size + 1 = (w.alloc (.cells #[.int .i64 P, .int .i64 N, .slice co cn cc, .slice oo on oc] 25)).heap.size by simp, heap_alloc_new])
  clear hF
  show Calls Try.prog 39 #[.agg #[.int .i64 P, .int .i64 N, .slice co cn cc, .slice oo on oc]] w _
  go_enter Try.func39, Try.ntmps39
  go_upto_region 1 with fail
  have HLO : Hid (w.heap.size = b) := Lib.hid hb
  clear hwc hb hro
  have e2 : wc.cell? ⟨b, 2, none⟩ = some (.slice co cn cc) := HP.out.cell 2
  have f2 := HP.out.free 2
  have HCC := Lib.hid (fun W h => cloneCo_any co cn cc cs h1 w W HP.out.f.core h)
  go_wp2_with fail
  (with_reducible refine (HCC.out _ HP.out.bw).mono ?_)
  rintro e w1 ⟨vc, vs, rfl, q1, q2, q3⟩
  have HP0 := HP
  have HP := Lib.hid (HP.out.keep q3)
  clear e2 f2 HCC
  have e2 : w1.cell? ⟨b, 2, none⟩ = some (.slice co cn cc) := HP.out.cell 2
  have f2 := HP.out.free 2
  have HS2 : Hid (b + 2 ≤ wc.heap.size) := Lib.hid HP0.out.sz
  have hg2 := Lib.hid (grown_cell w1 ⟨b, 2, none⟩ vc)
  have HH : Hid (CoHalf w (w1.setCell ⟨b, 2, none⟩ vc) (b + 2) vc cn cs 0) := Lib.hid ((co_start (own_base q1 HS2.out) LC.out q2).grown hg2.out (fun q e => .inl (by cases e; show b < b + 2; omega)) (fun q e => .inl (by cases e; show b < b + 2; omega)))
  have HP := Lib.hid (HP.out.put2 vc)
  obtain ⟨ao, c2, rfl, _⟩ : ∃ ao c2, vc = .slice ao cn c2 ∧ True := by
    rcases q1.2 with ⟨rfl, h0⟩ | ⟨g, cap, cur, rfl, _⟩
    · exact ⟨none, 0, by rw [h0], trivial⟩
    · exact ⟨_, _, rfl, trivial⟩
  clear q1 q2 q3 hg2 HP0 HS2
  go_upto_region 2 with fail
  generalize hw2 : w1.setCell ⟨b, 2, none⟩ (.slice ao cn c2) = w2
  rw [hw2] at HP HH
  clear hw2 e2 f2
  have e2 : w2.cell? ⟨b, 2, none⟩ = some (.slice ao cn c2) := HP.out.cell 2
  go_wp2
  clear e2
  go_loopw [14] (fun ii wr => ∃ i : Nat, i ≤ cn ∧ ii = .int .i64 i ∧ Hid (CoHalf w wr (b + 2) (.slice ao cn c2) cn cs i ∧ Cp ⟨P, N, co, cn, cc, oo, on, oc, cs, os⟩ w wr b ro (b + 2) (.slice ao cn c2) (.slice oo on oc))) (fun ii _ => cn - (intOf ii).toNat)
  case atStart => exact ⟨0, Nat.zero_le _, rfl, Lib.hid ⟨HH.out, HP.out⟩⟩
  case round =>
    obtain ⟨i, hi, rfl, HW⟩ := hrel
    have HH := Lib.hid HW.out.1
    have HP := Lib.hid HW.out.2
    clear HW
    by_cases ilt : i < cn
    · obtain ⟨xs, x1, x2, x3⟩ := HH.out.row
      obtain ⟨g, rfl⟩ : ∃ g, ao = some ⟨g, 0, none⟩ := by
        rcases x1.2 with ⟨e, h0⟩ | ⟨g, cap, cur, e, _⟩
        · omega
        · cases e; exact ⟨g, rfl⟩
      have hil : i < cs.length := by rw [LC.out]; exact ilt
      obtain ⟨o, m, d, y1, y2⟩ := x3 i hil (Nat.le_refl _)
      have z1 : wr.cell? ⟨g, i, none⟩ = some (.slice o m d) := by rw [x1.cellAt i (by omega)]; exact y1
      have m1 : m ≤ 1000000 := by rw [← y2.len]; exact S1.out _ (List.getElem_mem hil)
      have HSP := Lib.hid (y2.keep HP.out.bw)
      have HCL := Lib.hid (fun W h => clone_any o m d cs[i] m1 W (HSP.out.keep h))
      have HML := Lib.hid y2.len
      have HST := Lib.hid (fun W u B2 (h : CoHalf w W (b + 2) (.slice (some ⟨g, 0, none⟩) cn c2) cn cs i) (hB : b + 2 ≤ B2) (hu : W.ownsRow B2 50 2 u m (spCells cs[i])) => h.step ilt hB (by rw [y2.len]; exact hu))
      obtain ⟨L, hL⟩ : ∃ q, cs[i] = q := ⟨_, rfl⟩
      rw [hL] at HSP HCL HML HST
      have fz := x1.frozenAt i
      have HGB : Hid (b + 2 ≤ g) := Lib.hid (x1.lt g rfl).1
      have i0 : (0 : Int) ≤ (i : Int) := by omega
      have i1 : (i : Int) < (cn : Int) := by omega
      have e2 : wr.cell? ⟨b, 2, none⟩ = some (.slice (some ⟨g, 0, none⟩) cn c2) := HP.out.cell 2
      clear x1 x2 x3 y1 y2 hL
      clear hil
      go_wp2_with fail
      have HHK := Lib.hid (fun W (h : Below wr.heap.size wr W) => (⟨HH.out.keep h, HP.out.keep h⟩ : CoHalf w W (b + 2) (.slice (some ⟨g, 0, none⟩) cn c2) cn cs i ∧ Cp ⟨P, N, co, cn, cc, oo, on, oc, cs, os⟩ w W b ro (b + 2) (.slice (some ⟨g, 0, none⟩) cn c2) (.slice oo on oc)))
      have HBR := Lib.hid ((Below.refl wr.heap.size wr).drew)
      go_region_with (go_at_call 40; (with_reducible refine (HCL.out _ (HBR.out)).mono ?_); rintro e w3 ⟨v, rfl, z, q⟩; obtain ⟨a3, c3, rfl, _⟩ := own_sp HML.out z; have q2 := Lib.hid ((HBR.out).trans q); have HZ := Lib.hid z; have fz := free_keep fz z1 q2.out; have z1 := cell_keep z1 q2.out; have e2 := cell_keep e2 q2.out; clear q z)
      all_goals
        have HN : Hid (CoHalf w (w3.setCell ⟨g, i, none⟩ (.slice a3 m c3)) (b + 2) (.slice (some ⟨g, 0, none⟩) cn c2) cn cs (i + 1) ∧ Cp ⟨P, N, co, cn, cc, oo, on, oc, cs, os⟩ w (w3.setCell ⟨g, i, none⟩ (.slice a3 m c3)) b ro (b + 2) (.slice (some ⟨g, 0, none⟩) cn c2) (.slice oo on oc)) := Lib.hid ⟨HST.out w3 _ _ (HHK.out w3 q2.out).1 HP.out.sz HZ.out, (HHK.out w3 q2.out).2.grown (grown_cell w3 ⟨g, i, none⟩ _) (fun q e => by cases e; exact HGB.out)⟩
        generalize hw4 : w3.setCell ⟨g, i, none⟩ (.slice a3 m c3) = w4
        rw [hw4] at HN
        clear hw4 HZ fz z1 e2 q2 HHK HST HSP HCL HBR
        go_wp2
        go_roundw
        case rel => exact ⟨i + 1, by omega, by go_num, HN⟩
        case measure => simp [intOf]; omega
    · obtain rfl : cn = i := by omega
      have HCO := Lib.hid HH.out.done
      clear HH
      have e3 : wr.cell? ⟨b, 3, none⟩ = some (.slice oo on oc) := HP.out.cell 3
      have f3 := HP.out.free 3
      have HCC := Lib.hid (fun W h => cloneOd_any oo on oc os h2 w W HP.out.f.odd h)
      go_wp2_with fail
      (with_reducible refine (HCC.out _ HP.out.bw).mono ?_)
      rintro e w3 ⟨vo, vs2, rfl, q1, q2, q3⟩
      have HS2 : Hid (b + 2 ≤ wr.heap.size) := Lib.hid HP.out.sz
      have HCO := Lib.hid (HCO.out.keep q3)
      have HP := Lib.hid (HP.out.keep q3)
      clear e3 f3 HCC
      have e3 : w3.cell? ⟨b, 3, none⟩ = some (.slice oo on oc) := HP.out.cell 3
      have f3 := HP.out.free 3
      have hg2 := Lib.hid (grown_cell w3 ⟨b, 3, none⟩ vo)
      have HH : Hid (OdHalf w (w3.setCell ⟨b, 3, none⟩ vo) (b + 2) vo on os 0) := Lib.hid ((od_start (own_base q1 HS2.out) LO.out q2).grown hg2.out (fun q e => .inl (by cases e; show b < b + 2; omega)) (fun q e => .inl (by cases e; show b < b + 2; omega)))
      have HCO := Lib.hid (HCO.out.grown hg2.out (fun q e => .inl (by cases e; show b < b + 2; omega)) (fun q e => .inl (by cases e; show b < b + 2; omega)))
      have HP := Lib.hid (HP.out.put3 vo)
      obtain ⟨qo, q2c, rfl, _⟩ : ∃ ao c2, vo = .slice ao on c2 ∧ True := by
        rcases q1.2 with ⟨rfl, h0⟩ | ⟨g, cap, cur, rfl, _⟩
        · exact ⟨none, 0, by rw [h0], trivial⟩
        · exact ⟨_, _, rfl, trivial⟩
      clear q1 q2 q3 hg2 HS2
      go_upto_region 8 with fail
      generalize hw4 : w3.setCell ⟨b, 3, none⟩ (.slice qo on q2c) = w4
      rw [hw4] at HP HH HCO
      clear hw4 e3 f3
      have e3 : w4.cell? ⟨b, 3, none⟩ = some (.slice qo on q2c) := HP.out.cell 3
      go_wp2
      clear e3
      go_loopw [33] (fun ii wr => ∃ i : Nat, i ≤ on ∧ ii = .int .i64 i ∧ Hid (OdHalf w wr (b + 2) (.slice qo on q2c) on os i ∧ CoOwn wr (b + 2) (.slice ao cn c2) cn cs ∧ Cp ⟨P, N, co, cn, cc, oo, on, oc, cs, os⟩ w wr b ro (b + 2) (.slice ao cn c2) (.slice qo on q2c))) (fun ii _ => on - (intOf ii).toNat)
      case atStart => exact ⟨0, Nat.zero_le _, rfl, Lib.hid ⟨HH.out, HCO.out, HP.out⟩⟩
      case round =>
        obtain ⟨i, hi, rfl, HW⟩ := hrel
        have HH := Lib.hid HW.out.1
        have HCO := Lib.hid HW.out.2.1
        have HP := Lib.hid HW.out.2.2
        clear HW
        by_cases ilt : i < on
        · obtain ⟨xs, x1, x0, x2, x3⟩ := HH.out.row
          obtain ⟨g, rfl⟩ : ∃ g, qo = some ⟨g, 0, none⟩ := by
            rcases x1.2 with ⟨e, h0⟩ | ⟨g, cap, cur, e, _⟩
            · omega
            · cases e; exact ⟨g, rfl⟩
          have hil : i < os.length := by rw [LO.out]; exact ilt
          obtain ⟨o, m, d, y1, y2⟩ := x3 i hil (Nat.le_refl _)
          have z0 : wr.cell? ⟨g, i * 2, none⟩ = some (.int .i64 (os[i]'hil).1) := by rw [x1.cellAt _ (by omega)]; exact (x0 i hil).1
          have z1 : wr.cell? ⟨g, i * 2 + 1, none⟩ = some (.slice o m d) := by rw [x1.cellAt _ (by omega)]; exact y1
          have m1 : m ≤ 1000000 := by rw [← y2.len]; exact S2.out _ (List.getElem_mem hil)
          have HSP := Lib.hid (y2.keep HP.out.bw)
          have HCL := Lib.hid (fun W h => clone_any o m d (os[i]'hil).2 m1 W (HSP.out.keep h))
          have HML := Lib.hid y2.len
          have HST := Lib.hid (fun W u B2 (h : OdHalf w W (b + 2) (.slice (some ⟨g, 0, none⟩) on q2c) on os i) (hB : b + 2 ≤ B2) (hu : W.ownsRow B2 50 2 u m (spCells (os[i]'hil).2)) => h.step ilt hB (by rw [y2.len]; exact hu))
          obtain ⟨L, hL⟩ : ∃ q, (os[i]'hil).2 = q := ⟨_, rfl⟩
          rw [hL] at HSP HCL HML HST
          obtain ⟨X, hX⟩ : ∃ q, (os[i]'hil).1 = q := ⟨_, rfl⟩
          rw [hX] at z0
          have HGB : Hid (b + 2 ≤ g) := Lib.hid (x1.lt g rfl).1
          have fz := x1.frozenAt (i * 2 + 1)
          have i0 : (0 : Int) ≤ (i : Int) := by omega
          have i1 : (i : Int) < (on : Int) := by omega
          clear x1 x2 x3 y1 y2 hL x0 hX
          clear hil
          go_upto_region 11 with fail
          have KA := Lib.hid ((Below.refl _ wr).alloc (Nat.le_refl _) (.cells #[.int .i64 X, .slice o m d] 52))
          have u1 := (box_cells wr (.int .i64 X) (.slice o m d) 52).2
          obtain ⟨bx, hbx⟩ : ∃ q, wr.heap.size = q := ⟨_, rfl⟩
          have HSZ : Hid (b + 2 ≤ wr.heap.size) := Lib.hid HP.out.sz
          generalize hwx : wr.alloc (.cells #[.int .i64 X, .slice o m d] 52) = wx
          rw [hwx] at KA u1
          rw [hbx] at u1
          rw [hbx]
          have fz := free_keep fz z1 KA.out
          have z1 := cell_keep z1 KA.out
          have HHX : Hid (OdHalf w wx (b + 2) (.slice (some ⟨g, 0, none⟩) on q2c) on os i ∧ CoOwn wx (b + 2) (.slice ao cn c2) cn cs ∧ Cp ⟨P, N, co, cn, cc, oo, on, oc, cs, os⟩ w wx b ro (b + 2) (.slice ao cn c2) (.slice (some ⟨g, 0, none⟩) on q2c)) := Lib.hid ⟨HH.out.keep KA.out, HCO.out.keep KA.out, HP.out.keep KA.out⟩
          have HCL := Lib.hid (fun W (h : Below wx.heap.size wx W) => HCL.out W (KA.out.trans (h.mono KA.out.size)))
          have HSZ : Hid (b + 2 ≤ wx.heap.size) := Lib.hid (Nat.le_trans HSZ.out KA.out.size)
          clear HH HCO HP hwx hbx KA z0 HSP
          have e3 : wx.cell? ⟨b, 3, none⟩ = some (.slice (some ⟨g, 0, none⟩) on q2c) := HHX.out.2.2.cell 3
          have HBR := Lib.hid ((Below.refl wx.heap.size wx).drew)
          go_region_with (go_at_call 40; (with_reducible refine (HCL.out _ HBR.out).mono ?_); rintro e w3 ⟨v, rfl, z, q⟩; obtain ⟨a3, c3, rfl, _⟩ := own_sp HML.out z; have q2 := Lib.hid (HBR.out.trans q); have HZ := Lib.hid z; have fz := free_keep fz z1 q2.out; have z1 := cell_keep z1 q2.out; have e3 := cell_keep e3 q2.out; have u1 := cell_keep u1 q2.out; clear q z)
          all_goals
            have HN : Hid (OdHalf w (w3.setCell ⟨g, i * 2 + 1, none⟩ (.slice a3 m c3)) (b + 2) (.slice (some ⟨g, 0, none⟩) on q2c) on os (i + 1) ∧ CoOwn (w3.setCell ⟨g, i * 2 + 1, none⟩ (.slice a3 m c3)) (b + 2) (.slice ao cn c2) cn cs ∧ Cp ⟨P, N, co, cn, cc, oo, on, oc, cs, os⟩ w (w3.setCell ⟨g, i * 2 + 1, none⟩ (.slice a3 m c3)) b ro (b + 2) (.slice ao cn c2) (.slice (some ⟨g, 0, none⟩) on q2c)) := Lib.hid (by
              have h := HHX.out.1.keep q2.out
              obtain ⟨xs, r1, _⟩ := h.row
              obtain ⟨cur, r2⟩ := own_typed r1 (g := g) rfl
              have ho : ∀ e, 52 ≠ e → Off w3 (b + 2) e (some g) := fun e he q z => .inr ⟨cur, 52, by cases z; exact r2, he⟩
              exact ⟨HST.out w3 _ _ h HSZ.out HZ.out, (HHX.out.2.1.keep q2.out).grown (grown_cell w3 ⟨g, i * 2 + 1, none⟩ _) (ho _ (by decide)) (ho _ (by decide)), (HHX.out.2.2.keep q2.out).grown (grown_cell w3 ⟨g, i * 2 + 1, none⟩ _) (fun q e => by cases e; exact HGB.out)⟩)
            generalize hw4 : w3.setCell ⟨g, i * 2 + 1, none⟩ (.slice a3 m c3) = w4
            rw [hw4] at HN
            clear hw4 HZ fz z1 e3 q2 HHX HST HCL HBR u1
            go_wp2
            go_roundw
            case rel => exact ⟨i + 1, by omega, by go_num, HN⟩
            case measure => simp [intOf]; omega
        · obtain rfl : on = i := by omega
          have HOD := Lib.hid HH.out.done
          have e0 : wr.cell? ⟨b, 0, none⟩ = some (.int .i64 P) := HP.out.cell 0
          have e1 : wr.cell? ⟨b, 1, none⟩ = some (.int .i64 N) := HP.out.cell 1
          have e2 : wr.cell? ⟨b, 2, none⟩ = some (.slice ao cn c2) := HP.out.cell 2
          have e3 : wr.cell? ⟨b, 3, none⟩ = some (.slice qo on q2c) := HP.out.cell 3
          have r0 := HP.out.resc 0
          have r1 := HP.out.resc 1
          have r2 := HP.out.resc 2
          have r3 := HP.out.resc 3
          have f0 := HP.out.rfree 0
          have f1 := HP.out.rfree 1
          have f2 := HP.out.rfree 2
          have f3 := HP.out.rfree 3
          clear HH
          go_wp2_with fail
          have HRS := Lib.hid (put_four HP.out.res (.int .i64 P) (.int .i64 N) (.slice ao cn c2) (.slice qo on q2c))
          have HGF := Lib.hid (grown_four wr ro (.int .i64 P) (.int .i64 N) (.slice ao cn c2) (.slice qo on q2c))
          generalize hwf : (((wr.setCell ⟨ro, 0, none⟩ (.int .i64 P)).setCell ⟨ro, 1, none⟩ (.int .i64 N)).setCell ⟨ro, 2, none⟩ (.slice ao cn c2)).setCell ⟨ro, 3, none⟩ (.slice qo on q2c) = wf
          rw [hwf] at HRS HGF
          clear hwf e0 e1 e2 e3 r0 r1 r2 r3 f0 f1 f2 f3
          have HC2 := Lib.hid (HCO.out.grown HGF.out (fun q e => .inl (by cases e; exact HP.out.hi2)) (fun q e => .inl (by cases e; exact HP.out.hi2)))
          have HO2 := Lib.hid (HOD.out.grown HGF.out (fun q e => .inl (by cases e; exact HP.out.hi2)) (fun q e => .inl (by cases e; exact HP.out.hi2)))
          have HBW := Lib.hid (HP.out.bw.grown HGF.out HP.out.bw.size (fun q e => by cases e; exact HP.out.lo2))
          have r0 : wf.cell? ⟨ro, 0, none⟩ = some (.int .i64 P) := cell_block HRS.out 0
          have r1 : wf.cell? ⟨ro, 1, none⟩ = some (.int .i64 N) := cell_block HRS.out 1
          have r2 : wf.cell? ⟨ro, 2, none⟩ = some (.slice ao cn c2) := cell_block HRS.out 2
          have r3 : wf.cell? ⟨ro, 3, none⟩ = some (.slice qo on q2c) := cell_block HRS.out 3
          have hle : w.heap.size ≤ b + 2 := by have := HLO.out; omega
          exact bodyPost_ret (v := .agg #[.int .i64 P, .int .i64 N, .slice ao cn c2, .slice qo on q2c]) (by simp [results, Try.results39, go_sem, r0, r1, r2, r3]) rfl ⟨_, _, rfl, Lib.hid ⟨HC2.out.mono hle, HO2.out.mono hle⟩, HBW⟩
/-- A new form under way. -/
structure An (F : Fv) (w0 w : World) (b ro bo B : Nat) (vc vo : Value) : Prop where
  cp : Cp F w0 w bo ro B vc vo
  box : w.heap[b]? = some (.cells F.box 25 (0, 0))
  hb : b < B
  n1 : b ≠ bo
theorem An.grown {F : Fv} {w0 w w' : World} {b ro bo B : Nat} {vc vo : Value} {row : Option Nat} (h : An F w0 w b ro bo B vc vo) (hg : w.grownBy w' row) (hr : ∀ q, row = some q → B ≤ q) : An F w0 w' b ro bo B vc vo :=
  ⟨h.cp.grown hg hr, (hg.block b (Nat.lt_of_lt_of_le h.hb h.cp.sz) (fun e => by have := hr b e.symm; have := h.hb; omega)).trans h.box, h.hb, h.n1⟩
theorem An.keep {F : Fv} {w0 w w' : World} {b ro bo B : Nat} {vc vo : Value} (h : An F w0 w b ro bo B vc vo) (k : Below w.heap.size w w') : An F w0 w' b ro bo B vc vo := h.grown (grown_of_below k) (fun q e => by cases e)
theorem An.put2 {F : Fv} {w0 w : World} {b ro bo B : Nat} {vc vo : Value} (h : An F w0 w b ro bo B vc vo) (u : Value) : An F w0 (w.setCell ⟨bo, 2, none⟩ u) b ro bo B u vo :=
  ⟨h.cp.put2 u, ((grown_cell w ⟨bo, 2, none⟩ u).block b (Nat.lt_of_lt_of_le h.hb h.cp.sz) (fun e => by cases e; exact h.n1 rfl)).trans h.box, h.hb, h.n1⟩
theorem An.put3 {F : Fv} {w0 w : World} {b ro bo B : Nat} {vc vo : Value} (h : An F w0 w b ro bo B vc vo) (u : Value) : An F w0 (w.setCell ⟨bo, 3, none⟩ u) b ro bo B vc u :=
  ⟨h.cp.put3 u, ((grown_cell w ⟨bo, 3, none⟩ u).block b (Nat.lt_of_lt_of_le h.hb h.cp.sz) (fun e => by cases e; exact h.n1 rfl)).trans h.box, h.hb, h.n1⟩
theorem An.boxc {F : Fv} {w0 w : World} {b ro bo B : Nat} {vc vo : Value} (h : An F w0 w b ro bo B vc vo) (k : Nat) : w.cell? ⟨b, k, none⟩ = F.box[k]? := cell_block h.box k
/-- A set more. -/
theorem co_push {w w' : World} {B i : Nat} {v v' : Value} {xs : List Value} {u : Value} {ls : List (List Sp)} {L : List Sp} (h0 : w.ownsRow B 34 1 v i xs) (hg : w.grownBy w' v.ownBlock) (hr : w'.ownsRow B 34 1 v' (i + 1) (xs ++ [u])) (hl : ls.length = i) (hi : ∀ j (h : j < ls.length), ∃ u, xs[j]? = some u ∧ w.ownsRow B 50 2 u ls[j].length (spCells ls[j])) (hu : w.ownsRow B 50 2 u L.length (spCells L)) : CoOwn w' B v' (i + 1) (ls ++ [L]) := by
  have off : Off w B 50 v.ownBlock := fun q e => by obtain ⟨cur, t⟩ := own_typed h0 e; exact .inr ⟨cur, 34, t, by decide⟩
  have hx : xs.length = i := by have := h0.1; omega
  refine ⟨by simp [hl], _, hr, fun j hj => ?_⟩
  by_cases q : j < ls.length
  · obtain ⟨u', a, b⟩ := hi j q
    exact ⟨u', by rw [List.getElem?_append_left (by omega)]; exact a, by rw [List.getElem_append_left q]; exact own_off b hg off⟩
  · have e : j = ls.length := by simp at hj; omega
    subst e
    exact ⟨u, by rw [List.getElem?_append_right (by omega)]; simp [hx, hl], by simpa using own_off hu hg off⟩
theorem od_push {w w' : World} {B i : Nat} {v v' : Value} {xs : List Value} {u : Value} {os : List Gr} {X : Int} {L : List Sp} (h0 : w.ownsRow B 52 2 v i xs) (hg : w.grownBy w' v.ownBlock) (hr : w'.ownsRow B 52 2 v' (i + 1) (xs ++ [.int .i64 X, u])) (hl : os.length = i) (hi : ∀ j (h : j < os.length), xs[j * 2]? = some (.int .i64 os[j].1) ∧ (∃ u, xs[j * 2 + 1]? = some u ∧ w.ownsRow B 50 2 u os[j].2.length (spCells os[j].2)) ∧ -9223372036854775808 ≤ os[j].1 ∧ os[j].1 ≤ 9223372036854775807) (hu : w.ownsRow B 50 2 u L.length (spCells L)) (hX : -9223372036854775808 ≤ X ∧ X ≤ 9223372036854775807) : OdOwn w' B v' (i + 1) (os ++ [(X, L)]) := by
  have off : Off w B 50 v.ownBlock := fun q e => by obtain ⟨cur, t⟩ := own_typed h0 e; exact .inr ⟨cur, 52, t, by decide⟩
  have hx : xs.length = i * 2 := h0.1
  refine ⟨by simp [hl], _, hr, fun j hj => ?_⟩
  by_cases q : j < os.length
  · obtain ⟨z, ⟨u', a, b⟩, y⟩ := hi j q
    rw [List.getElem_append_left q]
    exact ⟨by rw [List.getElem?_append_left (by omega)]; exact z, ⟨u', by rw [List.getElem?_append_left (by omega)]; exact a, own_off b hg off⟩, y⟩
  · have e : j = i := by simp at hj; omega
    subst e
    have e2 : (os ++ [(X, L)])[j] = (X, L) := by simp [hl]
    rw [e2]
    refine ⟨?_, ⟨u, ?_, own_off hu hg off⟩, hX⟩
    · rw [List.getElem?_append_right (by omega), hx]; simp
    · rw [List.getElem?_append_right (by omega), hx, show j * 2 + 1 - j * 2 = 1 by omega]; rfl
end Go.Proofs.Ytmjapbjjfhmohaa
