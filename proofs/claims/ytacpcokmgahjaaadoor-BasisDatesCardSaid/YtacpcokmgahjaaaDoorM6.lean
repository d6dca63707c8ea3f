/- Contract: Right, of forms of any size that a form may have. -/
import Derived.Test.YtacpcokmgahjaaaDoorG19
namespace Go.Proofs.YtacpcokmgahjaaaDoor
set_option linter.unusedVariables false
set_option linter.unusedSimpArgs false
open Go.ChangeShapes Go.WideShapes Go.ChangeAt Go.RowKit
def Fv.Mid (F : Fv) : Prop := F.cn ≤ 6000 ∧ F.on ≤ 6000 ∧ F.size ≤ 60000
theorem Fv.Small.mid {F : Fv} (h : F.Small) : F.Mid := ⟨Nat.le_trans h.1 (by omega), Nat.le_trans h.2.1 (by omega), Nat.le_trans h.2.2 (by omega)⟩
theorem ok_mid {F : Fv} (hs : F.Mid) (h1 : F.Meas) (h2 : ∀ l ∈ F.cs, Good l) (h3 : OddOk F.os) : F.Ok := by
  obtain ⟨a, b, c⟩ := hs
  unfold Fv.size at c
  refine ⟨h1, h2, h3, fun l hl => ?_, fun o ho => ?_, by omega, by omega⟩
  · have := le_lens hl; omega
  · have := le_lens (ls := tks F.os) (List.mem_map.2 ⟨o, ho, rfl⟩); omega
theorem Fv.Rt.okm {F : Fv} (h : F.Rt) (hs : F.Mid) : F.Ok := ok_mid hs h.meas h.core h.odd
set_option maxHeartbeats 2000000 in
theorem right_mid (F : Fv) (w : World) (hF : F.At w) (hs : F.Mid) (r : Bool) (hr : r = true ↔ F.Rt) :
    Calls Tryd.prog 16 #[F.v] w fun e w' => e = .returned (.int .i64 (rcode r)) ∧ Below w.heap.size w w' := by
  have HSM := Lib.hid hs
  have HR := Lib.hid hr
  have k1 := hs.1
  have k2 := hs.2.1
  have k3 := hs.2.2
  have HSZ := Lib.hid (fun W (h : F.At W) => size_any F W h (by omega) (by omega))
  obtain ⟨S, hS⟩ : ∃ q, F.size = q := ⟨_, rfl⟩
  rw [hS] at HSZ k3
  obtain ⟨r1, hr1⟩ : ∃ r : Bool, r = true ↔ F.Meas := by classical exact ⟨decide _, decide_eq_true_iff⟩
  obtain ⟨r2, hr2⟩ : ∃ r : Bool, r = true ↔ (∀ l ∈ F.cs, Good l) ∧ OddOk F.os := by classical exact ⟨decide _, decide_eq_true_iff⟩
  obtain ⟨r3, hr3⟩ : ∃ r : Bool, r = true ↔ RisOk F.cs F.P := by classical exact ⟨decide _, decide_eq_true_iff⟩
  obtain ⟨r4, hr4⟩ : ∃ r : Bool, r = true ↔ FitOk F := by classical exact ⟨decide _, decide_eq_true_iff⟩
  have HC1 := Lib.hid (fun W (h : F.At W) => measured_any F W h r1 hr1)
  have HC2 := Lib.hid (fun W (h : F.At W) => listed_any F W h r2 hr2)
  have HC3 := Lib.hid (fun (q1 : r1 = true) (q2 : r2 = true) W (h : F.At W) => rising_any F W h (hr2.1 q2).1 (meas_P (hr1.1 q1)).1 (meas_P (hr1.1 q1)).2 r3 hr3)
  have HC4 := Lib.hid (fun (q1 : r1 = true) (q2 : r2 = true) W (h : F.At W) => fitting_any F W h (ok_mid hs (hr1.1 q1) (hr2.1 q2).1 (hr2.1 q2).2) r4 hr4)
  have HN : Hid (r = (r1 && r2 && r3 && r4)) := Lib.hid (by
    have h : F.Rt ↔ (r1 && r2 && r3 && r4) = true := by
      simp only [Bool.and_eq_true, hr1, hr2, hr3, hr4]
      exact ⟨fun h => ⟨⟨⟨h.meas, h.core, h.odd⟩, h.ris⟩, h.fit⟩, fun h => ⟨h.1.1.1, h.1.1.2.1, h.1.1.2.2, h.1.2, h.2⟩⟩
    have h2 := hr.trans h
    cases r <;> cases hq : (r1 && r2 && r3 && r4) <;> simp_all)
  clear hr hr1 hr2 hr3 hr4 hS hs HR HSM
  obtain ⟨P, N, co, cn, cc, oo, on, oc, cs, os⟩ := F
  have LC : Hid (cs.length = cn) := Lib.hid hF.core.len
  have LO : Hid (os.length = on) := Lib.hid hF.odd.len
  have hmc : cn ≤ 9223372036854775807 := Nat.le_trans hF.core.le hF.core.top
  have hmo : on ≤ 9223372036854775807 := Nat.le_trans hF.odd.le hF.odd.top
  obtain ⟨b, hb⟩ : ∃ b, w.heap.size = b := ⟨_, rfl⟩
  obtain ⟨wb, hwb⟩ : ∃ wb, w.alloc (.cells #[.int .i64 P, .int .i64 N, .slice co cn cc, .slice oo on oc] 29) = wb := ⟨_, rfl⟩
  have HBB : Hid (Fbox ⟨P, N, co, cn, cc, oo, on, oc, cs, os⟩ w wb b) := Lib.hid (by rw [← hwb, ← hb]; exact fbox_new hF)
  clear hF
  show Calls Tryd.prog 16 #[.agg #[.int .i64 P, .int .i64 N, .slice co cn cc, .slice oo on oc]] w _
  go_enter Tryd.func16, Tryd.ntmps16
  go_upto_region 1 with fail
  clear hwb hb
  have e0 : wb.cell? ⟨b, 0, none⟩ = some (.int .i64 P) := HBB.out.c0
  have e1 : wb.cell? ⟨b, 1, none⟩ = some (.int .i64 N) := HBB.out.c1
  have e2 : wb.cell? ⟨b, 2, none⟩ = some (.slice co cn cc) := HBB.out.c2
  have e3 : wb.cell? ⟨b, 3, none⟩ = some (.slice oo on oc) := HBB.out.c3
  have HSZ : Hid (∀ W, Fv.At ⟨P, N, co, cn, cc, oo, on, oc, cs, os⟩ W → Calls Tryd.prog 28 #[.agg #[.int .i64 P, .int .i64 N, .slice co cn cc, .slice oo on oc]] W fun e w' => e = .returned (.int .i64 (S : Nat)) ∧ Below W.heap.size W w') := HSZ
  have HC1 : Hid (∀ W, Fv.At ⟨P, N, co, cn, cc, oo, on, oc, cs, os⟩ W → Calls Tryd.prog 29 #[.agg #[.int .i64 P, .int .i64 N, .slice co cn cc, .slice oo on oc]] W fun e w' => e = .returned (.bool r1) ∧ Below W.heap.size W w') := HC1
  have HC2 : Hid (∀ W, Fv.At ⟨P, N, co, cn, cc, oo, on, oc, cs, os⟩ W → Calls Tryd.prog 30 #[.agg #[.int .i64 P, .int .i64 N, .slice co cn cc, .slice oo on oc]] W fun e w' => e = .returned (.bool r2) ∧ Below W.heap.size W w') := HC2
  have HC3 : Hid (r1 = true → r2 = true → ∀ W, Fv.At ⟨P, N, co, cn, cc, oo, on, oc, cs, os⟩ W → Calls Tryd.prog 31 #[.agg #[.int .i64 P, .int .i64 N, .slice co cn cc, .slice oo on oc]] W fun e w' => e = .returned (.bool r3) ∧ Below W.heap.size W w') := HC3
  have HC4 : Hid (r1 = true → r2 = true → ∀ W, Fv.At ⟨P, N, co, cn, cc, oo, on, oc, cs, os⟩ W → Calls Tryd.prog 32 #[.agg #[.int .i64 P, .int .i64 N, .slice co cn cc, .slice oo on oc]] W fun e w' => e = .returned (.bool r4) ∧ Below W.heap.size W w') := HC4
  have k1 : cn ≤ 6000 := k1
  have k2 : on ≤ 6000 := k2
  have t1 : (cn : Int) ≤ 6000 := by omega
  have t2 : (on : Int) ≤ 6000 := by omega
  have t3 : (S : Int) ≤ 60000 := by omega
  go_wp2_with fail
  (with_reducible refine (HSZ.out _ HBB.out.at_).mono ?_)
  rintro e w2 ⟨rfl, q⟩
  have HBB := Lib.hid (HBB.out.keep q)
  clear q e0 e1 e2 e3 HSZ
  have e0 : w2.cell? ⟨b, 0, none⟩ = some (.int .i64 P) := HBB.out.c0
  have e1 : w2.cell? ⟨b, 1, none⟩ = some (.int .i64 N) := HBB.out.c1
  have e2 : w2.cell? ⟨b, 2, none⟩ = some (.slice co cn cc) := HBB.out.c2
  have e3 : w2.cell? ⟨b, 3, none⟩ = some (.slice oo on oc) := HBB.out.c3
  go_wp2_with fail
  (with_reducible refine (HC1.out _ HBB.out.at_).mono ?_)
  rintro e w3 ⟨rfl, q⟩
  have HBB := Lib.hid (HBB.out.keep q)
  clear q e0 e1 e2 e3
  cases r1
  · have HE : Hid (r = false) := Lib.hid (by rw [HN.out]; simp)
    clear HN
    go_wp2
    go_returns
    exact ⟨ret_int (by rw [HE.out]; rfl), HBB.out.bw⟩
  · skip
    have e0 : w3.cell? ⟨b, 0, none⟩ = some (.int .i64 P) := HBB.out.c0
    have e1 : w3.cell? ⟨b, 1, none⟩ = some (.int .i64 N) := HBB.out.c1
    have e2 : w3.cell? ⟨b, 2, none⟩ = some (.slice co cn cc) := HBB.out.c2
    have e3 : w3.cell? ⟨b, 3, none⟩ = some (.slice oo on oc) := HBB.out.c3
    go_wp2_with fail
    (with_reducible refine (HC2.out _ HBB.out.at_).mono ?_)
    rintro e w4 ⟨rfl, q⟩
    have HBB := Lib.hid (HBB.out.keep q)
    clear q e0 e1 e2 e3
    cases r2
    · have HE : Hid (r = false) := Lib.hid (by rw [HN.out]; simp)
      clear HN
      go_wp2
      go_returns
      exact ⟨ret_int (by rw [HE.out]; rfl), HBB.out.bw⟩
    · skip
      have e0 : w4.cell? ⟨b, 0, none⟩ = some (.int .i64 P) := HBB.out.c0
      have e1 : w4.cell? ⟨b, 1, none⟩ = some (.int .i64 N) := HBB.out.c1
      have e2 : w4.cell? ⟨b, 2, none⟩ = some (.slice co cn cc) := HBB.out.c2
      have e3 : w4.cell? ⟨b, 3, none⟩ = some (.slice oo on oc) := HBB.out.c3
      go_wp2_with fail
      (with_reducible refine (HC3.out (by first | rfl | trivial) (by first | rfl | trivial) _ HBB.out.at_).mono ?_)
      rintro e w5 ⟨rfl, q⟩
      have HBB := Lib.hid (HBB.out.keep q)
      clear q e0 e1 e2 e3
      cases r3
      · have HE : Hid (r = false) := Lib.hid (by rw [HN.out]; simp)
        clear HN
        go_wp2
        go_returns
        exact ⟨ret_int (by rw [HE.out]; rfl), HBB.out.bw⟩
      · skip
        have e0 : w5.cell? ⟨b, 0, none⟩ = some (.int .i64 P) := HBB.out.c0
        have e1 : w5.cell? ⟨b, 1, none⟩ = some (.int .i64 N) := HBB.out.c1
        have e2 : w5.cell? ⟨b, 2, none⟩ = some (.slice co cn cc) := HBB.out.c2
        have e3 : w5.cell? ⟨b, 3, none⟩ = some (.slice oo on oc) := HBB.out.c3
        go_wp2_with fail
        (with_reducible refine (HC4.out (by first | rfl | trivial) (by first | rfl | trivial) _ HBB.out.at_).mono ?_)
        rintro e w6 ⟨rfl, q⟩
        have HBB := Lib.hid (HBB.out.keep q)
        clear q e0 e1 e2 e3
        cases r4
        · have HE : Hid (r = false) := Lib.hid (by rw [HN.out]; simp)
          clear HN
          go_wp2
          go_returns
          exact ⟨ret_int (by rw [HE.out]; rfl), HBB.out.bw⟩
        · have HE : Hid (r = true) := Lib.hid (by rw [HN.out]; rfl)
          clear HN
          go_wp2
          go_returns
          exact ⟨ret_int (by rw [HE.out]; rfl), HBB.out.bw⟩
end Go.Proofs.YtacpcokmgahjaaaDoor
