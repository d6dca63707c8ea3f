/- TagAdds: the walk. -/
import Derived.Test.YtaobhhgalkkmaaaV3
namespace Go.Proofs.Ytaobhhgalkkmaaa
set_option linter.unusedVariables false
set_option linter.unusedSimpArgs false
open Go.ChangeShapes Go.WideShapes Go.ChangeAt Go.RowKit
set_option maxRecDepth 8000 in
set_option maxHeartbeats 8000000 in
theorem adds_walk (F : Fv) (a b0 c : Int) (w : World) (hF : F.At w) (a1 : -9223372036854775808 ≤ a) (a2 : a ≤ 9223372036854775807) (b01 : -9223372036854775808 ≤ b0) (b02 : b0 ≤ 9223372036854775807) (c1 : -9223372036854775808 ≤ c) (c2 : c ≤ 9223372036854775807) : Calls Try.prog 3 #[F.v, .int .i64 a, .int .i64 b0, .int .i64 c] w fun e w' => e = .returned (.bool true) ∧ Below w.heap.size w w' := by
  have HAW := Lib.hid (fun W => awake_any W)
  obtain ⟨s1, hs1⟩ : ∃ r : Bool, r = true ↔ F.Small := by classical exact ⟨decide _, decide_eq_true_iff⟩
  obtain ⟨s2, hs2⟩ : ∃ r : Bool, r = true ↔ F.Rt := by classical exact ⟨decide _, decide_eq_true_iff⟩
  have HS1 := Lib.hid hs1
  have HS2 := Lib.hid hs2
  have HC1 := Lib.hid (fun W (h : F.At W) => small_any F W h s1 hs1)
  have HC2 := Lib.hid (fun (q : s1 = true) W (h : F.At W) => right_small F W h (hs1.1 q) s2 hs2)
  clear hs1 hs2
  obtain ⟨P, N, co, cn, cc, oo, on, oc, cs, os⟩ := F
  have LC : Hid (cs.length = cn) := Lib.hid hF.core.len
  have LO : Hid (os.length = on) := Lib.hid hF.odd.len
  have hmc : cn ≤ 9223372036854775807 := Nat.le_trans hF.core.le hF.core.top
  have hmo : on ≤ 9223372036854775807 := Nat.le_trans hF.odd.le hF.odd.top
  obtain ⟨b, hb⟩ : ∃ b, w.heap.size = b := ⟨_, rfl⟩
  obtain ⟨wb, hwb⟩ : ∃ wb, w.alloc (.cells #[.int .i64 P, .int .i64 N, .slice co cn cc, .slice oo on oc] 25) = wb := ⟨_, rfl⟩
  have HBB : Hid (Fbox ⟨P, N, co, cn, cc, oo, on, oc, cs, os⟩ w wb b) := Lib.hid (by rw [← hwb, ← hb]; exact fbox_new hF)
  clear hF
  show Calls Try.prog 3 #[.agg #[.int .i64 P, .int .i64 N, .slice co cn cc, .slice oo on oc], .int .i64 a, .int .i64 b0, .int .i64 c] w _
  go_enter Try.func3, Try.ntmps3
  go_upto_region 1 with fail
  clear hwb hb
  have HS1 : Hid (s1 = true ↔ Fv.Small ⟨P, N, co, cn, cc, oo, on, oc, cs, os⟩) := HS1
  have HS2 : Hid (s2 = true ↔ Fv.Rt ⟨P, N, co, cn, cc, oo, on, oc, cs, os⟩) := HS2
  have HLN : Hid ((Fv.cs ⟨P, N, co, cn, cc, oo, on, oc, cs, os⟩).length = Fv.cn ⟨P, N, co, cn, cc, oo, on, oc, cs, os⟩) := Lib.hid LC.out
  have HC1 : Hid (∀ W, Fv.At ⟨P, N, co, cn, cc, oo, on, oc, cs, os⟩ W → Calls Try.prog 6 #[.agg #[.int .i64 P, .int .i64 N, .slice co cn cc, .slice oo on oc]] W fun e w' => e = .returned (.bool s1) ∧ Below W.heap.size W w') := HC1
  have HC2 : Hid (s1 = true → ∀ W, Fv.At ⟨P, N, co, cn, cc, oo, on, oc, cs, os⟩ W → Calls Try.prog 7 #[.agg #[.int .i64 P, .int .i64 N, .slice co cn cc, .slice oo on oc]] W fun e w' => e = .returned (.int .i64 (rcode s2)) ∧ Below W.heap.size W w') := HC2
  have e0 : wb.cell? ⟨b, 0, none⟩ = some (.int .i64 P) := HBB.out.c0
  have e1 : wb.cell? ⟨b, 1, none⟩ = some (.int .i64 N) := HBB.out.c1
  have e2 : wb.cell? ⟨b, 2, none⟩ = some (.slice co cn cc) := HBB.out.c2
  have e3 : wb.cell? ⟨b, 3, none⟩ = some (.slice oo on oc) := HBB.out.c3
  go_wp2_with fail
  (with_reducible refine (HC1.out _ HBB.out.at_).mono ?_)
  rintro e w1 ⟨rfl, q⟩
  have HBB := Lib.hid (HBB.out.keep q)
  clear q e0 e1 e2 e3 HC1
  cases s1
  · clear HC2 HS1 HS2
    go_wp2_with fail
    (with_reducible refine (HAW.out _).mono ?_)
    rintro e w9 ⟨rfl, q⟩
    have HBB := Lib.hid (HBB.out.keep q)
    clear q
    go_wp2
    go_returns
    exact ⟨rfl, HBB.out.bw⟩
  · have HC3 := Lib.hid (HC2.out (by first | rfl | trivial))
    clear HC2
    have e0 : w1.cell? ⟨b, 0, none⟩ = some (.int .i64 P) := HBB.out.c0
    have e1 : w1.cell? ⟨b, 1, none⟩ = some (.int .i64 N) := HBB.out.c1
    have e2 : w1.cell? ⟨b, 2, none⟩ = some (.slice co cn cc) := HBB.out.c2
    have e3 : w1.cell? ⟨b, 3, none⟩ = some (.slice oo on oc) := HBB.out.c3
    go_wp2_with fail
    (with_reducible refine (HC3.out _ HBB.out.at_).mono ?_)
    rintro e w2 ⟨rfl, q⟩
    have HBB := Lib.hid (HBB.out.keep q)
    clear q e0 e1 e2 e3 HC3
    cases s2
    · have tz : rcode false = 50 := rfl
      clear HS1 HS2
      go_wp2_with fail
      (with_reducible refine (HAW.out _).mono ?_)
      rintro e w9 ⟨rfl, q⟩
      have HBB := Lib.hid (HBB.out.keep q)
      clear q
      go_wp2
      go_returns
      exact ⟨rfl, HBB.out.bw⟩
    · have tz : rcode true = 0 := rfl
      have HSM : Hid (Fv.Small ⟨P, N, co, cn, cc, oo, on, oc, cs, os⟩) := Lib.hid (HS1.out.1 (by first | rfl | trivial))
      have HRT : Hid (Fv.Rt ⟨P, N, co, cn, cc, oo, on, oc, cs, os⟩) := Lib.hid (HS2.out.1 (by first | rfl | trivial))
      have HOK : Hid (Fv.Ok ⟨P, N, co, cn, cc, oo, on, oc, cs, os⟩) := Lib.hid (HRT.out.ok HSM.out)
      have HCN : Hid (cn ≤ 10000) := Lib.hid (Nat.le_trans HSM.out.1 (by decide))
      clear HS1 HS2
      obtain ⟨ia, oa, ha⟩ := at_ex ⟨P, N, co, cn, cc, oo, on, oc, cs, os⟩ a
      obtain ⟨ib, ob, hb0⟩ := at_ex ⟨P, N, co, cn, cc, oo, on, oc, cs, os⟩ b0
      obtain ⟨ic, oc, hc⟩ := at_ex ⟨P, N, co, cn, cc, oo, on, oc, cs, os⟩ c
      have Ha := Lib.hid ha
      have Hb0 := Lib.hid hb0
      have Hc := Lib.hid hc
      clear ha hb0 hc
      cases oa <;> cases ob <;> cases oc
      · have Cab : Hid (∀ W, Fv.At ⟨P, N, co, cn, cc, oo, on, oc, cs, os⟩ W → Calls Try.prog 9 #[.agg #[.int .i64 P, .int .i64 N, .slice co cn cc, .slice oo on oc], .int .i64 a, .int .i64 b0] W fun e w' => e = .returned (.tuple #[.int .i64 (0), .bool false]) ∧ Hid (Below W.heap.size W w')) := Lib.hid (fun W h => distance_any ⟨P, N, co, cn, cc, oo, on, oc, cs, os⟩ a b0 ia ib false false W h HRT.out HOK.out HCN.out a1 a2 b01 b02 Ha.out Hb0.out (0) false rfl (rfl))
        have Cba : Hid (∀ W, Fv.At ⟨P, N, co, cn, cc, oo, on, oc, cs, os⟩ W → Calls Try.prog 9 #[.agg #[.int .i64 P, .int .i64 N, .slice co cn cc, .slice oo on oc], .int .i64 b0, .int .i64 a] W fun e w' => e = .returned (.tuple #[.int .i64 (0), .bool false]) ∧ Hid (Below W.heap.size W w')) := Lib.hid (fun W h => distance_any ⟨P, N, co, cn, cc, oo, on, oc, cs, os⟩ b0 a ib ia false false W h HRT.out HOK.out HCN.out b01 b02 a1 a2 Hb0.out Ha.out (0) false rfl (rfl))
        have Cbc : Hid (∀ W, Fv.At ⟨P, N, co, cn, cc, oo, on, oc, cs, os⟩ W → Calls Try.prog 9 #[.agg #[.int .i64 P, .int .i64 N, .slice co cn cc, .slice oo on oc], .int .i64 b0, .int .i64 c] W fun e w' => e = .returned (.tuple #[.int .i64 (0), .bool false]) ∧ Hid (Below W.heap.size W w')) := Lib.hid (fun W h => distance_any ⟨P, N, co, cn, cc, oo, on, oc, cs, os⟩ b0 c ib ic false false W h HRT.out HOK.out HCN.out b01 b02 c1 c2 Hb0.out Hc.out (0) false rfl (rfl))
        have Cac : Hid (∀ W, Fv.At ⟨P, N, co, cn, cc, oo, on, oc, cs, os⟩ W → Calls Try.prog 9 #[.agg #[.int .i64 P, .int .i64 N, .slice co cn cc, .slice oo on oc], .int .i64 a, .int .i64 c] W fun e w' => e = .returned (.tuple #[.int .i64 (0), .bool false]) ∧ Hid (Below W.heap.size W w')) := Lib.hid (fun W h => distance_any ⟨P, N, co, cn, cc, oo, on, oc, cs, os⟩ a c ia ic false false W h HRT.out HOK.out HCN.out a1 a2 c1 c2 Ha.out Hc.out (0) false rfl (rfl))
        have Caa : Hid (∀ W, Fv.At ⟨P, N, co, cn, cc, oo, on, oc, cs, os⟩ W → Calls Try.prog 9 #[.agg #[.int .i64 P, .int .i64 N, .slice co cn cc, .slice oo on oc], .int .i64 a, .int .i64 a] W fun e w' => e = .returned (.tuple #[.int .i64 (0), .bool false]) ∧ Hid (Below W.heap.size W w')) := Lib.hid (fun W h => distance_any ⟨P, N, co, cn, cc, oo, on, oc, cs, os⟩ a a ia ia false false W h HRT.out HOK.out HCN.out a1 a2 a1 a2 Ha.out Ha.out (0) false rfl (rfl))
        have Cbb : Hid (∀ W, Fv.At ⟨P, N, co, cn, cc, oo, on, oc, cs, os⟩ W → Calls Try.prog 9 #[.agg #[.int .i64 P, .int .i64 N, .slice co cn cc, .slice oo on oc], .int .i64 b0, .int .i64 b0] W fun e w' => e = .returned (.tuple #[.int .i64 (0), .bool false]) ∧ Hid (Below W.heap.size W w')) := Lib.hid (fun W h => distance_any ⟨P, N, co, cn, cc, oo, on, oc, cs, os⟩ b0 b0 ib ib false false W h HRT.out HOK.out HCN.out b01 b02 b01 b02 Hb0.out Hb0.out (0) false rfl (rfl))
        have e0 : w2.cell? ⟨b, 0, none⟩ = some (.int .i64 P) := HBB.out.c0
        have e1 : w2.cell? ⟨b, 1, none⟩ = some (.int .i64 N) := HBB.out.c1
        have e2 : w2.cell? ⟨b, 2, none⟩ = some (.slice co cn cc) := HBB.out.c2
        have e3 : w2.cell? ⟨b, 3, none⟩ = some (.slice oo on oc) := HBB.out.c3
        go_wp2_with fail
        (with_reducible refine (Cab.out _ HBB.out.at_).mono ?_)
        rintro e w3 ⟨rfl, q⟩
        have HBB := Lib.hid (HBB.out.keep q.out)
        clear q e0 e1 e2 e3 Cab
        have e0 : w3.cell? ⟨b, 0, none⟩ = some (.int .i64 P) := HBB.out.c0
        have e1 : w3.cell? ⟨b, 1, none⟩ = some (.int .i64 N) := HBB.out.c1
        have e2 : w3.cell? ⟨b, 2, none⟩ = some (.slice co cn cc) := HBB.out.c2
        have e3 : w3.cell? ⟨b, 3, none⟩ = some (.slice oo on oc) := HBB.out.c3
        go_wp2_with fail
        (with_reducible refine (Cba.out _ HBB.out.at_).mono ?_)
        rintro e w4 ⟨rfl, q⟩
        have HBB := Lib.hid (HBB.out.keep q.out)
        clear q e0 e1 e2 e3 Cba
        have e0 : w4.cell? ⟨b, 0, none⟩ = some (.int .i64 P) := HBB.out.c0
        have e1 : w4.cell? ⟨b, 1, none⟩ = some (.int .i64 N) := HBB.out.c1
        have e2 : w4.cell? ⟨b, 2, none⟩ = some (.slice co cn cc) := HBB.out.c2
        have e3 : w4.cell? ⟨b, 3, none⟩ = some (.slice oo on oc) := HBB.out.c3
        go_wp2_with fail
        (with_reducible refine (Cbc.out _ HBB.out.at_).mono ?_)
        rintro e w5 ⟨rfl, q⟩
        have HBB := Lib.hid (HBB.out.keep q.out)
        clear q e0 e1 e2 e3 Cbc
        have e0 : w5.cell? ⟨b, 0, none⟩ = some (.int .i64 P) := HBB.out.c0
        have e1 : w5.cell? ⟨b, 1, none⟩ = some (.int .i64 N) := HBB.out.c1
        have e2 : w5.cell? ⟨b, 2, none⟩ = some (.slice co cn cc) := HBB.out.c2
        have e3 : w5.cell? ⟨b, 3, none⟩ = some (.slice oo on oc) := HBB.out.c3
        go_wp2_with fail
        (with_reducible refine (Cac.out _ HBB.out.at_).mono ?_)
        rintro e w6 ⟨rfl, q⟩
        have HBB := Lib.hid (HBB.out.keep q.out)
        clear q e0 e1 e2 e3 Cac
        have e0 : w6.cell? ⟨b, 0, none⟩ = some (.int .i64 P) := HBB.out.c0
        have e1 : w6.cell? ⟨b, 1, none⟩ = some (.int .i64 N) := HBB.out.c1
        have e2 : w6.cell? ⟨b, 2, none⟩ = some (.slice co cn cc) := HBB.out.c2
        have e3 : w6.cell? ⟨b, 3, none⟩ = some (.slice oo on oc) := HBB.out.c3
        go_wp2_with fail
        (with_reducible refine (Caa.out _ HBB.out.at_).mono ?_)
        rintro e w7 ⟨rfl, q⟩
        have HBB := Lib.hid (HBB.out.keep q.out)
        clear q e0 e1 e2 e3 Caa
        have e0 : w7.cell? ⟨b, 0, none⟩ = some (.int .i64 P) := HBB.out.c0
        have e1 : w7.cell? ⟨b, 1, none⟩ = some (.int .i64 N) := HBB.out.c1
        have e2 : w7.cell? ⟨b, 2, none⟩ = some (.slice co cn cc) := HBB.out.c2
        have e3 : w7.cell? ⟨b, 3, none⟩ = some (.slice oo on oc) := HBB.out.c3
        go_wp2_with fail
        (with_reducible refine (Cbb.out _ HBB.out.at_).mono ?_)
        rintro e w8 ⟨rfl, q⟩
        have HBB := Lib.hid (HBB.out.keep q.out)
        clear q e0 e1 e2 e3 Cbb
        go_wp2_with fail
        (with_reducible refine (HAW.out _).mono ?_)
        rintro e w9 ⟨rfl, q⟩
        have HBB := Lib.hid (HBB.out.keep q)
        clear q
        go_wp2
        go_returns
        exact ⟨rfl, HBB.out.bw⟩
      · have Cab : Hid (∀ W, Fv.At ⟨P, N, co, cn, cc, oo, on, oc, cs, os⟩ W → Calls Try.prog 9 #[.agg #[.int .i64 P, .int .i64 N, .slice co cn cc, .slice oo on oc], .int .i64 a, .int .i64 b0] W fun e w' => e = .returned (.tuple #[.int .i64 (0), .bool false]) ∧ Hid (Below W.heap.size W w')) := Lib.hid (fun W h => distance_any ⟨P, N, co, cn, cc, oo, on, oc, cs, os⟩ a b0 ia ib false false W h HRT.out HOK.out HCN.out a1 a2 b01 b02 Ha.out Hb0.out (0) false rfl (rfl))
        have Cba : Hid (∀ W, Fv.At ⟨P, N, co, cn, cc, oo, on, oc, cs, os⟩ W → Calls Try.prog 9 #[.agg #[.int .i64 P, .int .i64 N, .slice co cn cc, .slice oo on oc], .int .i64 b0, .int .i64 a] W fun e w' => e = .returned (.tuple #[.int .i64 (0), .bool false]) ∧ Hid (Below W.heap.size W w')) := Lib.hid (fun W h => distance_any ⟨P, N, co, cn, cc, oo, on, oc, cs, os⟩ b0 a ib ia false false W h HRT.out HOK.out HCN.out b01 b02 a1 a2 Hb0.out Ha.out (0) false rfl (rfl))
        have Cbc : Hid (∀ W, Fv.At ⟨P, N, co, cn, cc, oo, on, oc, cs, os⟩ W → Calls Try.prog 9 #[.agg #[.int .i64 P, .int .i64 N, .slice co cn cc, .slice oo on oc], .int .i64 b0, .int .i64 c] W fun e w' => e = .returned (.tuple #[.int .i64 (0), .bool false]) ∧ Hid (Below W.heap.size W w')) := Lib.hid (fun W h => distance_any ⟨P, N, co, cn, cc, oo, on, oc, cs, os⟩ b0 c ib ic false true W h HRT.out HOK.out HCN.out b01 b02 c1 c2 Hb0.out Hc.out (0) false rfl (rfl))
        have Cac : Hid (∀ W, Fv.At ⟨P, N, co, cn, cc, oo, on, oc, cs, os⟩ W → Calls Try.prog 9 #[.agg #[.int .i64 P, .int .i64 N, .slice co cn cc, .slice oo on oc], .int .i64 a, .int .i64 c] W fun e w' => e = .returned (.tuple #[.int .i64 (0), .bool false]) ∧ Hid (Below W.heap.size W w')) := Lib.hid (fun W h => distance_any ⟨P, N, co, cn, cc, oo, on, oc, cs, os⟩ a c ia ic false true W h HRT.out HOK.out HCN.out a1 a2 c1 c2 Ha.out Hc.out (0) false rfl (rfl))
        have Caa : Hid (∀ W, Fv.At ⟨P, N, co, cn, cc, oo, on, oc, cs, os⟩ W → Calls Try.prog 9 #[.agg #[.int .i64 P, .int .i64 N, .slice co cn cc, .slice oo on oc], .int .i64 a, .int .i64 a] W fun e w' => e = .returned (.tuple #[.int .i64 (0), .bool false]) ∧ Hid (Below W.heap.size W w')) := Lib.hid (fun W h => distance_any ⟨P, N, co, cn, cc, oo, on, oc, cs, os⟩ a a ia ia false false W h HRT.out HOK.out HCN.out a1 a2 a1 a2 Ha.out Ha.out (0) false rfl (rfl))
        have Cbb : Hid (∀ W, Fv.At ⟨P, N, co, cn, cc, oo, on, oc, cs, os⟩ W → Calls Try.prog 9 #[.agg #[.int .i64 P, .int .i64 N, .slice co cn cc, .slice oo on oc], .int .i64 b0, .int .i64 b0] W fun e w' => e = .returned (.tuple #[.int .i64 (0), .bool false]) ∧ Hid (Below W.heap.size W w')) := Lib.hid (fun W h => distance_any ⟨P, N, co, cn, cc, oo, on, oc, cs, os⟩ b0 b0 ib ib false false W h HRT.out HOK.out HCN.out b01 b02 b01 b02 Hb0.out Hb0.out (0) false rfl (rfl))
        have e0 : w2.cell? ⟨b, 0, none⟩ = some (.int .i64 P) := HBB.out.c0
        have e1 : w2.cell? ⟨b, 1, none⟩ = some (.int .i64 N) := HBB.out.c1
        have e2 : w2.cell? ⟨b, 2, none⟩ = some (.slice co cn cc) := HBB.out.c2
        have e3 : w2.cell? ⟨b, 3, none⟩ = some (.slice oo on oc) := HBB.out.c3
        go_wp2_with fail
        (with_reducible refine (Cab.out _ HBB.out.at_).mono ?_)
        rintro e w3 ⟨rfl, q⟩
        have HBB := Lib.hid (HBB.out.keep q.out)
        clear q e0 e1 e2 e3 Cab
        have e0 : w3.cell? ⟨b, 0, none⟩ = some (.int .i64 P) := HBB.out.c0
        have e1 : w3.cell? ⟨b, 1, none⟩ = some (.int .i64 N) := HBB.out.c1
        have e2 : w3.cell? ⟨b, 2, none⟩ = some (.slice co cn cc) := HBB.out.c2
        have e3 : w3.cell? ⟨b, 3, none⟩ = some (.slice oo on oc) := HBB.out.c3
        go_wp2_with fail
        (with_reducible refine (Cba.out _ HBB.out.at_).mono ?_)
        rintro e w4 ⟨rfl, q⟩
        have HBB := Lib.hid (HBB.out.keep q.out)
        clear q e0 e1 e2 e3 Cba
        have e0 : w4.cell? ⟨b, 0, none⟩ = some (.int .i64 P) := HBB.out.c0
        have e1 : w4.cell? ⟨b, 1, none⟩ = some (.int .i64 N) := HBB.out.c1
        have e2 : w4.cell? ⟨b, 2, none⟩ = some (.slice co cn cc) := HBB.out.c2
        have e3 : w4.cell? ⟨b, 3, none⟩ = some (.slice oo on oc) := HBB.out.c3
        go_wp2_with fail
        (with_reducible refine (Cbc.out _ HBB.out.at_).mono ?_)
        rintro e w5 ⟨rfl, q⟩
        have HBB := Lib.hid (HBB.out.keep q.out)
        clear q e0 e1 e2 e3 Cbc
        have e0 : w5.cell? ⟨b, 0, none⟩ = some (.int .i64 P) := HBB.out.c0
        have e1 : w5.cell? ⟨b, 1, none⟩ = some (.int .i64 N) := HBB.out.c1
        have e2 : w5.cell? ⟨b, 2, none⟩ = some (.slice co cn cc) := HBB.out.c2
        have e3 : w5.cell? ⟨b, 3, none⟩ = some (.slice oo on oc) := HBB.out.c3
        go_wp2_with fail
        (with_reducible refine (Cac.out _ HBB.out.at_).mono ?_)
        rintro e w6 ⟨rfl, q⟩
        have HBB := Lib.hid (HBB.out.keep q.out)
        clear q e0 e1 e2 e3 Cac
        have e0 : w6.cell? ⟨b, 0, none⟩ = some (.int .i64 P) := HBB.out.c0
        have e1 : w6.cell? ⟨b, 1, none⟩ = some (.int .i64 N) := HBB.out.c1
        have e2 : w6.cell? ⟨b, 2, none⟩ = some (.slice co cn cc) := HBB.out.c2
        have e3 : w6.cell? ⟨b, 3, none⟩ = some (.slice oo on oc) := HBB.out.c3
        go_wp2_with fail
        (with_reducible refine (Caa.out _ HBB.out.at_).mono ?_)
        rintro e w7 ⟨rfl, q⟩
        have HBB := Lib.hid (HBB.out.keep q.out)
        clear q e0 e1 e2 e3 Caa
        have e0 : w7.cell? ⟨b, 0, none⟩ = some (.int .i64 P) := HBB.out.c0
        have e1 : w7.cell? ⟨b, 1, none⟩ = some (.int .i64 N) := HBB.out.c1
        have e2 : w7.cell? ⟨b, 2, none⟩ = some (.slice co cn cc) := HBB.out.c2
        have e3 : w7.cell? ⟨b, 3, none⟩ = some (.slice oo on oc) := HBB.out.c3
        go_wp2_with fail
        (with_reducible refine (Cbb.out _ HBB.out.at_).mono ?_)
        rintro e w8 ⟨rfl, q⟩
        have HBB := Lib.hid (HBB.out.keep q.out)
        clear q e0 e1 e2 e3 Cbb
        go_wp2_with fail
        (with_reducible refine (HAW.out _).mono ?_)
        rintro e w9 ⟨rfl, q⟩
        have HBB := Lib.hid (HBB.out.keep q)
        clear q
        go_wp2
        go_returns
        exact ⟨rfl, HBB.out.bw⟩
      · have Cab : Hid (∀ W, Fv.At ⟨P, N, co, cn, cc, oo, on, oc, cs, os⟩ W → Calls Try.prog 9 #[.agg #[.int .i64 P, .int .i64 N, .slice co cn cc, .slice oo on oc], .int .i64 a, .int .i64 b0] W fun e w' => e = .returned (.tuple #[.int .i64 (0), .bool false]) ∧ Hid (Below W.heap.size W w')) := Lib.hid (fun W h => distance_any ⟨P, N, co, cn, cc, oo, on, oc, cs, os⟩ a b0 ia ib false true W h HRT.out HOK.out HCN.out a1 a2 b01 b02 Ha.out Hb0.out (0) false rfl (rfl))
        have Cba : Hid (∀ W, Fv.At ⟨P, N, co, cn, cc, oo, on, oc, cs, os⟩ W → Calls Try.prog 9 #[.agg #[.int .i64 P, .int .i64 N, .slice co cn cc, .slice oo on oc], .int .i64 b0, .int .i64 a] W fun e w' => e = .returned (.tuple #[.int .i64 (0), .bool false]) ∧ Hid (Below W.heap.size W w')) := Lib.hid (fun W h => distance_any ⟨P, N, co, cn, cc, oo, on, oc, cs, os⟩ b0 a ib ia true false W h HRT.out HOK.out HCN.out b01 b02 a1 a2 Hb0.out Ha.out (0) false rfl (rfl))
        have Cbc : Hid (∀ W, Fv.At ⟨P, N, co, cn, cc, oo, on, oc, cs, os⟩ W → Calls Try.prog 9 #[.agg #[.int .i64 P, .int .i64 N, .slice co cn cc, .slice oo on oc], .int .i64 b0, .int .i64 c] W fun e w' => e = .returned (.tuple #[.int .i64 (0), .bool false]) ∧ Hid (Below W.heap.size W w')) := Lib.hid (fun W h => distance_any ⟨P, N, co, cn, cc, oo, on, oc, cs, os⟩ b0 c ib ic true false W h HRT.out HOK.out HCN.out b01 b02 c1 c2 Hb0.out Hc.out (0) false rfl (rfl))
        have Cac : Hid (∀ W, Fv.At ⟨P, N, co, cn, cc, oo, on, oc, cs, os⟩ W → Calls Try.prog 9 #[.agg #[.int .i64 P, .int .i64 N, .slice co cn cc, .slice oo on oc], .int .i64 a, .int .i64 c] W fun e w' => e = .returned (.tuple #[.int .i64 (0), .bool false]) ∧ Hid (Below W.heap.size W w')) := Lib.hid (fun W h => distance_any ⟨P, N, co, cn, cc, oo, on, oc, cs, os⟩ a c ia ic false false W h HRT.out HOK.out HCN.out a1 a2 c1 c2 Ha.out Hc.out (0) false rfl (rfl))
        have Caa : Hid (∀ W, Fv.At ⟨P, N, co, cn, cc, oo, on, oc, cs, os⟩ W → Calls Try.prog 9 #[.agg #[.int .i64 P, .int .i64 N, .slice co cn cc, .slice oo on oc], .int .i64 a, .int .i64 a] W fun e w' => e = .returned (.tuple #[.int .i64 (0), .bool false]) ∧ Hid (Below W.heap.size W w')) := Lib.hid (fun W h => distance_any ⟨P, N, co, cn, cc, oo, on, oc, cs, os⟩ a a ia ia false false W h HRT.out HOK.out HCN.out a1 a2 a1 a2 Ha.out Ha.out (0) false rfl (rfl))
        have Cbb : Hid (∀ W, Fv.At ⟨P, N, co, cn, cc, oo, on, oc, cs, os⟩ W → Calls Try.prog 9 #[.agg #[.int .i64 P, .int .i64 N, .slice co cn cc, .slice oo on oc], .int .i64 b0, .int .i64 b0] W fun e w' => e = .returned (.tuple #[.int .i64 (0), .bool true]) ∧ Hid (Below W.heap.size W w')) := Lib.hid (fun W h => distance_any ⟨P, N, co, cn, cc, oo, on, oc, cs, os⟩ b0 b0 ib ib true true W h HRT.out HOK.out HCN.out b01 b02 b01 b02 Hb0.out Hb0.out (0) true rfl (by simp))
        have e0 : w2.cell? ⟨b, 0, none⟩ = some (.int .i64 P) := HBB.out.c0
        have e1 : w2.cell? ⟨b, 1, none⟩ = some (.int .i64 N) := HBB.out.c1
        have e2 : w2.cell? ⟨b, 2, none⟩ = some (.slice co cn cc) := HBB.out.c2
        have e3 : w2.cell? ⟨b, 3, none⟩ = some (.slice oo on oc) := HBB.out.c3
        go_wp2_with fail
        (with_reducible refine (Cab.out _ HBB.out.at_).mono ?_)
        rintro e w3 ⟨rfl, q⟩
        have HBB := Lib.hid (HBB.out.keep q.out)
        clear q e0 e1 e2 e3 Cab
        have e0 : w3.cell? ⟨b, 0, none⟩ = some (.int .i64 P) := HBB.out.c0
        have e1 : w3.cell? ⟨b, 1, none⟩ = some (.int .i64 N) := HBB.out.c1
        have e2 : w3.cell? ⟨b, 2, none⟩ = some (.slice co cn cc) := HBB.out.c2
        have e3 : w3.cell? ⟨b, 3, none⟩ = some (.slice oo on oc) := HBB.out.c3
        go_wp2_with fail
        (with_reducible refine (Cba.out _ HBB.out.at_).mono ?_)
        rintro e w4 ⟨rfl, q⟩
        have HBB := Lib.hid (HBB.out.keep q.out)
        clear q e0 e1 e2 e3 Cba
        have e0 : w4.cell? ⟨b, 0, none⟩ = some (.int .i64 P) := HBB.out.c0
        have e1 : w4.cell? ⟨b, 1, none⟩ = some (.int .i64 N) := HBB.out.c1
        have e2 : w4.cell? ⟨b, 2, none⟩ = some (.slice co cn cc) := HBB.out.c2
        have e3 : w4.cell? ⟨b, 3, none⟩ = some (.slice oo on oc) := HBB.out.c3
        go_wp2_with fail
        (with_reducible refine (Cbc.out _ HBB.out.at_).mono ?_)
        rintro e w5 ⟨rfl, q⟩
        have HBB := Lib.hid (HBB.out.keep q.out)
        clear q e0 e1 e2 e3 Cbc
        have e0 : w5.cell? ⟨b, 0, none⟩ = some (.int .i64 P) := HBB.out.c0
        have e1 : w5.cell? ⟨b, 1, none⟩ = some (.int .i64 N) := HBB.out.c1
        have e2 : w5.cell? ⟨b, 2, none⟩ = some (.slice co cn cc) := HBB.out.c2
        have e3 : w5.cell? ⟨b, 3, none⟩ = some (.slice oo on oc) := HBB.out.c3
        go_wp2_with fail
        (with_reducible refine (Cac.out _ HBB.out.at_).mono ?_)
        rintro e w6 ⟨rfl, q⟩
        have HBB := Lib.hid (HBB.out.keep q.out)
        clear q e0 e1 e2 e3 Cac
        have e0 : w6.cell? ⟨b, 0, none⟩ = some (.int .i64 P) := HBB.out.c0
        have e1 : w6.cell? ⟨b, 1, none⟩ = some (.int .i64 N) := HBB.out.c1
        have e2 : w6.cell? ⟨b, 2, none⟩ = some (.slice co cn cc) := HBB.out.c2
        have e3 : w6.cell? ⟨b, 3, none⟩ = some (.slice oo on oc) := HBB.out.c3
        go_wp2_with fail
        (with_reducible refine (Caa.out _ HBB.out.at_).mono ?_)
        rintro e w7 ⟨rfl, q⟩
        have HBB := Lib.hid (HBB.out.keep q.out)
        clear q e0 e1 e2 e3 Caa
        have e0 : w7.cell? ⟨b, 0, none⟩ = some (.int .i64 P) := HBB.out.c0
        have e1 : w7.cell? ⟨b, 1, none⟩ = some (.int .i64 N) := HBB.out.c1
        have e2 : w7.cell? ⟨b, 2, none⟩ = some (.slice co cn cc) := HBB.out.c2
        have e3 : w7.cell? ⟨b, 3, none⟩ = some (.slice oo on oc) := HBB.out.c3
        go_wp2_with fail
        (with_reducible refine (Cbb.out _ HBB.out.at_).mono ?_)
        rintro e w8 ⟨rfl, q⟩
        have HBB := Lib.hid (HBB.out.keep q.out)
        clear q e0 e1 e2 e3 Cbb
        go_wp2_with fail
        (with_reducible refine (HAW.out _).mono ?_)
        rintro e w9 ⟨rfl, q⟩
        have HBB := Lib.hid (HBB.out.keep q)
        clear q
        go_wp2
        go_returns
        exact ⟨rfl, HBB.out.bw⟩
      · have Cab : Hid (∀ W, Fv.At ⟨P, N, co, cn, cc, oo, on, oc, cs, os⟩ W → Calls Try.prog 9 #[.agg #[.int .i64 P, .int .i64 N, .slice co cn cc, .slice oo on oc], .int .i64 a, .int .i64 b0] W fun e w' => e = .returned (.tuple #[.int .i64 (0), .bool false]) ∧ Hid (Below W.heap.size W w')) := Lib.hid (fun W h => distance_any ⟨P, N, co, cn, cc, oo, on, oc, cs, os⟩ a b0 ia ib false true W h HRT.out HOK.out HCN.out a1 a2 b01 b02 Ha.out Hb0.out (0) false rfl (rfl))
        have Cba : Hid (∀ W, Fv.At ⟨P, N, co, cn, cc, oo, on, oc, cs, os⟩ W → Calls Try.prog 9 #[.agg #[.int .i64 P, .int .i64 N, .slice co cn cc, .slice oo on oc], .int .i64 b0, .int .i64 a] W fun e w' => e = .returned (.tuple #[.int .i64 (0), .bool false]) ∧ Hid (Below W.heap.size W w')) := Lib.hid (fun W h => distance_any ⟨P, N, co, cn, cc, oo, on, oc, cs, os⟩ b0 a ib ia true false W h HRT.out HOK.out HCN.out b01 b02 a1 a2 Hb0.out Ha.out (0) false rfl (rfl))
        have Cbc : Hid (∀ W, Fv.At ⟨P, N, co, cn, cc, oo, on, oc, cs, os⟩ W → Calls Try.prog 9 #[.agg #[.int .i64 P, .int .i64 N, .slice co cn cc, .slice oo on oc], .int .i64 b0, .int .i64 c] W fun e w' => e = .returned (.tuple #[.int .i64 (ic - ib), .bool true]) ∧ Hid (Below W.heap.size W w')) := Lib.hid (fun W h => distance_any ⟨P, N, co, cn, cc, oo, on, oc, cs, os⟩ b0 c ib ic true true W h HRT.out HOK.out HCN.out b01 b02 c1 c2 Hb0.out Hc.out (ic - ib) true rfl (by simp))
        have Cac : Hid (∀ W, Fv.At ⟨P, N, co, cn, cc, oo, on, oc, cs, os⟩ W → Calls Try.prog 9 #[.agg #[.int .i64 P, .int .i64 N, .slice co cn cc, .slice oo on oc], .int .i64 a, .int .i64 c] W fun e w' => e = .returned (.tuple #[.int .i64 (0), .bool false]) ∧ Hid (Below W.heap.size W w')) := Lib.hid (fun W h => distance_any ⟨P, N, co, cn, cc, oo, on, oc, cs, os⟩ a c ia ic false true W h HRT.out HOK.out HCN.out a1 a2 c1 c2 Ha.out Hc.out (0) false rfl (rfl))
        have Caa : Hid (∀ W, Fv.At ⟨P, N, co, cn, cc, oo, on, oc, cs, os⟩ W → Calls Try.prog 9 #[.agg #[.int .i64 P, .int .i64 N, .slice co cn cc, .slice oo on oc], .int .i64 a, .int .i64 a] W fun e w' => e = .returned (.tuple #[.int .i64 (0), .bool false]) ∧ Hid (Below W.heap.size W w')) := Lib.hid (fun W h => distance_any ⟨P, N, co, cn, cc, oo, on, oc, cs, os⟩ a a ia ia false false W h HRT.out HOK.out HCN.out a1 a2 a1 a2 Ha.out Ha.out (0) false rfl (rfl))
        have Cbb : Hid (∀ W, Fv.At ⟨P, N, co, cn, cc, oo, on, oc, cs, os⟩ W → Calls Try.prog 9 #[.agg #[.int .i64 P, .int .i64 N, .slice co cn cc, .slice oo on oc], .int .i64 b0, .int .i64 b0] W fun e w' => e = .returned (.tuple #[.int .i64 (0), .bool true]) ∧ Hid (Below W.heap.size W w')) := Lib.hid (fun W h => distance_any ⟨P, N, co, cn, cc, oo, on, oc, cs, os⟩ b0 b0 ib ib true true W h HRT.out HOK.out HCN.out b01 b02 b01 b02 Hb0.out Hb0.out (0) true rfl (by simp))
        have e0 : w2.cell? ⟨b, 0, none⟩ = some (.int .i64 P) := HBB.out.c0
        have e1 : w2.cell? ⟨b, 1, none⟩ = some (.int .i64 N) := HBB.out.c1
        have e2 : w2.cell? ⟨b, 2, none⟩ = some (.slice co cn cc) := HBB.out.c2
        have e3 : w2.cell? ⟨b, 3, none⟩ = some (.slice oo on oc) := HBB.out.c3
        go_wp2_with fail
        (with_reducible refine (Cab.out _ HBB.out.at_).mono ?_)
        rintro e w3 ⟨rfl, q⟩
        have HBB := Lib.hid (HBB.out.keep q.out)
        clear q e0 e1 e2 e3 Cab
        have e0 : w3.cell? ⟨b, 0, none⟩ = some (.int .i64 P) := HBB.out.c0
        have e1 : w3.cell? ⟨b, 1, none⟩ = some (.int .i64 N) := HBB.out.c1
        have e2 : w3.cell? ⟨b, 2, none⟩ = some (.slice co cn cc) := HBB.out.c2
        have e3 : w3.cell? ⟨b, 3, none⟩ = some (.slice oo on oc) := HBB.out.c3
        go_wp2_with fail
        (with_reducible refine (Cba.out _ HBB.out.at_).mono ?_)
        rintro e w4 ⟨rfl, q⟩
        have HBB := Lib.hid (HBB.out.keep q.out)
        clear q e0 e1 e2 e3 Cba
        have e0 : w4.cell? ⟨b, 0, none⟩ = some (.int .i64 P) := HBB.out.c0
        have e1 : w4.cell? ⟨b, 1, none⟩ = some (.int .i64 N) := HBB.out.c1
        have e2 : w4.cell? ⟨b, 2, none⟩ = some (.slice co cn cc) := HBB.out.c2
        have e3 : w4.cell? ⟨b, 3, none⟩ = some (.slice oo on oc) := HBB.out.c3
        go_wp2_with fail
        (with_reducible refine (Cbc.out _ HBB.out.at_).mono ?_)
        rintro e w5 ⟨rfl, q⟩
        have HBB := Lib.hid (HBB.out.keep q.out)
        clear q e0 e1 e2 e3 Cbc
        have e0 : w5.cell? ⟨b, 0, none⟩ = some (.int .i64 P) := HBB.out.c0
        have e1 : w5.cell? ⟨b, 1, none⟩ = some (.int .i64 N) := HBB.out.c1
        have e2 : w5.cell? ⟨b, 2, none⟩ = some (.slice co cn cc) := HBB.out.c2
        have e3 : w5.cell? ⟨b, 3, none⟩ = some (.slice oo on oc) := HBB.out.c3
        go_wp2_with fail
        (with_reducible refine (Cac.out _ HBB.out.at_).mono ?_)
        rintro e w6 ⟨rfl, q⟩
        have HBB := Lib.hid (HBB.out.keep q.out)
        clear q e0 e1 e2 e3 Cac
        have e0 : w6.cell? ⟨b, 0, none⟩ = some (.int .i64 P) := HBB.out.c0
        have e1 : w6.cell? ⟨b, 1, none⟩ = some (.int .i64 N) := HBB.out.c1
        have e2 : w6.cell? ⟨b, 2, none⟩ = some (.slice co cn cc) := HBB.out.c2
        have e3 : w6.cell? ⟨b, 3, none⟩ = some (.slice oo on oc) := HBB.out.c3
        go_wp2_with fail
        (with_reducible refine (Caa.out _ HBB.out.at_).mono ?_)
        rintro e w7 ⟨rfl, q⟩
        have HBB := Lib.hid (HBB.out.keep q.out)
        clear q e0 e1 e2 e3 Caa
        have e0 : w7.cell? ⟨b, 0, none⟩ = some (.int .i64 P) := HBB.out.c0
        have e1 : w7.cell? ⟨b, 1, none⟩ = some (.int .i64 N) := HBB.out.c1
        have e2 : w7.cell? ⟨b, 2, none⟩ = some (.slice co cn cc) := HBB.out.c2
        have e3 : w7.cell? ⟨b, 3, none⟩ = some (.slice oo on oc) := HBB.out.c3
        go_wp2_with fail
        (with_reducible refine (Cbb.out _ HBB.out.at_).mono ?_)
        rintro e w8 ⟨rfl, q⟩
        have HBB := Lib.hid (HBB.out.keep q.out)
        clear q e0 e1 e2 e3 Cbb
        go_wp2_with fail
        (with_reducible refine (HAW.out _).mono ?_)
        rintro e w9 ⟨rfl, q⟩
        have HBB := Lib.hid (HBB.out.keep q)
        clear q
        go_wp2
        go_returns
        exact ⟨rfl, HBB.out.bw⟩
      · have Cab : Hid (∀ W, Fv.At ⟨P, N, co, cn, cc, oo, on, oc, cs, os⟩ W → Calls Try.prog 9 #[.agg #[.int .i64 P, .int .i64 N, .slice co cn cc, .slice oo on oc], .int .i64 a, .int .i64 b0] W fun e w' => e = .returned (.tuple #[.int .i64 (0), .bool false]) ∧ Hid (Below W.heap.size W w')) := Lib.hid (fun W h => distance_any ⟨P, N, co, cn, cc, oo, on, oc, cs, os⟩ a b0 ia ib true false W h HRT.out HOK.out HCN.out a1 a2 b01 b02 Ha.out Hb0.out (0) false rfl (rfl))
        have Cba : Hid (∀ W, Fv.At ⟨P, N, co, cn, cc, oo, on, oc, cs, os⟩ W → Calls Try.prog 9 #[.agg #[.int .i64 P, .int .i64 N, .slice co cn cc, .slice oo on oc], .int .i64 b0, .int .i64 a] W fun e w' => e = .returned (.tuple #[.int .i64 (0), .bool false]) ∧ Hid (Below W.heap.size W w')) := Lib.hid (fun W h => distance_any ⟨P, N, co, cn, cc, oo, on, oc, cs, os⟩ b0 a ib ia false true W h HRT.out HOK.out HCN.out b01 b02 a1 a2 Hb0.out Ha.out (0) false rfl (rfl))
        have Cbc : Hid (∀ W, Fv.At ⟨P, N, co, cn, cc, oo, on, oc, cs, os⟩ W → Calls Try.prog 9 #[.agg #[.int .i64 P, .int .i64 N, .slice co cn cc, .slice oo on oc], .int .i64 b0, .int .i64 c] W fun e w' => e = .returned (.tuple #[.int .i64 (0), .bool false]) ∧ Hid (Below W.heap.size W w')) := Lib.hid (fun W h => distance_any ⟨P, N, co, cn, cc, oo, on, oc, cs, os⟩ b0 c ib ic false false W h HRT.out HOK.out HCN.out b01 b02 c1 c2 Hb0.out Hc.out (0) false rfl (rfl))
        have Cac : Hid (∀ W, Fv.At ⟨P, N, co, cn, cc, oo, on, oc, cs, os⟩ W → Calls Try.prog 9 #[.agg #[.int .i64 P, .int .i64 N, .slice co cn cc, .slice oo on oc], .int .i64 a, .int .i64 c] W fun e w' => e = .returned (.tuple #[.int .i64 (0), .bool false]) ∧ Hid (Below W.heap.size W w')) := Lib.hid (fun W h => distance_any ⟨P, N, co, cn, cc, oo, on, oc, cs, os⟩ a c ia ic true false W h HRT.out HOK.out HCN.out a1 a2 c1 c2 Ha.out Hc.out (0) false rfl (rfl))
        have Caa : Hid (∀ W, Fv.At ⟨P, N, co, cn, cc, oo, on, oc, cs, os⟩ W → Calls Try.prog 9 #[.agg #[.int .i64 P, .int .i64 N, .slice co cn cc, .slice oo on oc], .int .i64 a, .int .i64 a] W fun e w' => e = .returned (.tuple #[.int .i64 (0), .bool true]) ∧ Hid (Below W.heap.size W w')) := Lib.hid (fun W h => distance_any ⟨P, N, co, cn, cc, oo, on, oc, cs, os⟩ a a ia ia true true W h HRT.out HOK.out HCN.out a1 a2 a1 a2 Ha.out Ha.out (0) true rfl (by simp))
        have Cbb : Hid (∀ W, Fv.At ⟨P, N, co, cn, cc, oo, on, oc, cs, os⟩ W → Calls Try.prog 9 #[.agg #[.int .i64 P, .int .i64 N, .slice co cn cc, .slice oo on oc], .int .i64 b0, .int .i64 b0] W fun e w' => e = .returned (.tuple #[.int .i64 (0), .bool false]) ∧ Hid (Below W.heap.size W w')) := Lib.hid (fun W h => distance_any ⟨P, N, co, cn, cc, oo, on, oc, cs, os⟩ b0 b0 ib ib false false W h HRT.out HOK.out HCN.out b01 b02 b01 b02 Hb0.out Hb0.out (0) false rfl (rfl))
        have e0 : w2.cell? ⟨b, 0, none⟩ = some (.int .i64 P) := HBB.out.c0
        have e1 : w2.cell? ⟨b, 1, none⟩ = some (.int .i64 N) := HBB.out.c1
        have e2 : w2.cell? ⟨b, 2, none⟩ = some (.slice co cn cc) := HBB.out.c2
        have e3 : w2.cell? ⟨b, 3, none⟩ = some (.slice oo on oc) := HBB.out.c3
        go_wp2_with fail
        (with_reducible refine (Cab.out _ HBB.out.at_).mono ?_)
        rintro e w3 ⟨rfl, q⟩
        have HBB := Lib.hid (HBB.out.keep q.out)
        clear q e0 e1 e2 e3 Cab
        have e0 : w3.cell? ⟨b, 0, none⟩ = some (.int .i64 P) := HBB.out.c0
        have e1 : w3.cell? ⟨b, 1, none⟩ = some (.int .i64 N) := HBB.out.c1
        have e2 : w3.cell? ⟨b, 2, none⟩ = some (.slice co cn cc) := HBB.out.c2
        have e3 : w3.cell? ⟨b, 3, none⟩ = some (.slice oo on oc) := HBB.out.c3
        go_wp2_with fail
        (with_reducible refine (Cba.out _ HBB.out.at_).mono ?_)
        rintro e w4 ⟨rfl, q⟩
        have HBB := Lib.hid (HBB.out.keep q.out)
        clear q e0 e1 e2 e3 Cba
        have e0 : w4.cell? ⟨b, 0, none⟩ = some (.int .i64 P) := HBB.out.c0
        have e1 : w4.cell? ⟨b, 1, none⟩ = some (.int .i64 N) := HBB.out.c1
        have e2 : w4.cell? ⟨b, 2, none⟩ = some (.slice co cn cc) := HBB.out.c2
        have e3 : w4.cell? ⟨b, 3, none⟩ = some (.slice oo on oc) := HBB.out.c3
        go_wp2_with fail
        (with_reducible refine (Cbc.out _ HBB.out.at_).mono ?_)
        rintro e w5 ⟨rfl, q⟩
        have HBB := Lib.hid (HBB.out.keep q.out)
        clear q e0 e1 e2 e3 Cbc
        have e0 : w5.cell? ⟨b, 0, none⟩ = some (.int .i64 P) := HBB.out.c0
        have e1 : w5.cell? ⟨b, 1, none⟩ = some (.int .i64 N) := HBB.out.c1
        have e2 : w5.cell? ⟨b, 2, none⟩ = some (.slice co cn cc) := HBB.out.c2
        have e3 : w5.cell? ⟨b, 3, none⟩ = some (.slice oo on oc) := HBB.out.c3
        go_wp2_with fail
        (with_reducible refine (Cac.out _ HBB.out.at_).mono ?_)
        rintro e w6 ⟨rfl, q⟩
        have HBB := Lib.hid (HBB.out.keep q.out)
        clear q e0 e1 e2 e3 Cac
        have e0 : w6.cell? ⟨b, 0, none⟩ = some (.int .i64 P) := HBB.out.c0
        have e1 : w6.cell? ⟨b, 1, none⟩ = some (.int .i64 N) := HBB.out.c1
        have e2 : w6.cell? ⟨b, 2, none⟩ = some (.slice co cn cc) := HBB.out.c2
        have e3 : w6.cell? ⟨b, 3, none⟩ = some (.slice oo on oc) := HBB.out.c3
        go_wp2_with fail
        (with_reducible refine (Caa.out _ HBB.out.at_).mono ?_)
        rintro e w7 ⟨rfl, q⟩
        have HBB := Lib.hid (HBB.out.keep q.out)
        clear q e0 e1 e2 e3 Caa
        have e0 : w7.cell? ⟨b, 0, none⟩ = some (.int .i64 P) := HBB.out.c0
        have e1 : w7.cell? ⟨b, 1, none⟩ = some (.int .i64 N) := HBB.out.c1
        have e2 : w7.cell? ⟨b, 2, none⟩ = some (.slice co cn cc) := HBB.out.c2
        have e3 : w7.cell? ⟨b, 3, none⟩ = some (.slice oo on oc) := HBB.out.c3
        go_wp2_with fail
        (with_reducible refine (Cbb.out _ HBB.out.at_).mono ?_)
        rintro e w8 ⟨rfl, q⟩
        have HBB := Lib.hid (HBB.out.keep q.out)
        clear q e0 e1 e2 e3 Cbb
        go_wp2_with fail
        (with_reducible refine (HAW.out _).mono ?_)
        rintro e w9 ⟨rfl, q⟩
        have HBB := Lib.hid (HBB.out.keep q)
        clear q
        go_wp2
        go_returns
        exact ⟨rfl, HBB.out.bw⟩
      · have Cab : Hid (∀ W, Fv.At ⟨P, N, co, cn, cc, oo, on, oc, cs, os⟩ W → Calls Try.prog 9 #[.agg #[.int .i64 P, .int .i64 N, .slice co cn cc, .slice oo on oc], .int .i64 a, .int .i64 b0] W fun e w' => e = .returned (.tuple #[.int .i64 (0), .bool false]) ∧ Hid (Below W.heap.size W w')) := Lib.hid (fun W h => distance_any ⟨P, N, co, cn, cc, oo, on, oc, cs, os⟩ a b0 ia ib true false W h HRT.out HOK.out HCN.out a1 a2 b01 b02 Ha.out Hb0.out (0) false rfl (rfl))
        have Cba : Hid (∀ W, Fv.At ⟨P, N, co, cn, cc, oo, on, oc, cs, os⟩ W → Calls Try.prog 9 #[.agg #[.int .i64 P, .int .i64 N, .slice co cn cc, .slice oo on oc], .int .i64 b0, .int .i64 a] W fun e w' => e = .returned (.tuple #[.int .i64 (0), .bool false]) ∧ Hid (Below W.heap.size W w')) := Lib.hid (fun W h => distance_any ⟨P, N, co, cn, cc, oo, on, oc, cs, os⟩ b0 a ib ia false true W h HRT.out HOK.out HCN.out b01 b02 a1 a2 Hb0.out Ha.out (0) false rfl (rfl))
        have Cbc : Hid (∀ W, Fv.At ⟨P, N, co, cn, cc, oo, on, oc, cs, os⟩ W → Calls Try.prog 9 #[.agg #[.int .i64 P, .int .i64 N, .slice co cn cc, .slice oo on oc], .int .i64 b0, .int .i64 c] W fun e w' => e = .returned (.tuple #[.int .i64 (0), .bool false]) ∧ Hid (Below W.heap.size W w')) := Lib.hid (fun W h => distance_any ⟨P, N, co, cn, cc, oo, on, oc, cs, os⟩ b0 c ib ic false true W h HRT.out HOK.out HCN.out b01 b02 c1 c2 Hb0.out Hc.out (0) false rfl (rfl))
        have Cac : Hid (∀ W, Fv.At ⟨P, N, co, cn, cc, oo, on, oc, cs, os⟩ W → Calls Try.prog 9 #[.agg #[.int .i64 P, .int .i64 N, .slice co cn cc, .slice oo on oc], .int .i64 a, .int .i64 c] W fun e w' => e = .returned (.tuple #[.int .i64 (ic - ia), .bool true]) ∧ Hid (Below W.heap.size W w')) := Lib.hid (fun W h => distance_any ⟨P, N, co, cn, cc, oo, on, oc, cs, os⟩ a c ia ic true true W h HRT.out HOK.out HCN.out a1 a2 c1 c2 Ha.out Hc.out (ic - ia) true rfl (by simp))
        have Caa : Hid (∀ W, Fv.At ⟨P, N, co, cn, cc, oo, on, oc, cs, os⟩ W → Calls Try.prog 9 #[.agg #[.int .i64 P, .int .i64 N, .slice co cn cc, .slice oo on oc], .int .i64 a, .int .i64 a] W fun e w' => e = .returned (.tuple #[.int .i64 (0), .bool true]) ∧ Hid (Below W.heap.size W w')) := Lib.hid (fun W h => distance_any ⟨P, N, co, cn, cc, oo, on, oc, cs, os⟩ a a ia ia true true W h HRT.out HOK.out HCN.out a1 a2 a1 a2 Ha.out Ha.out (0) true rfl (by simp))
        have Cbb : Hid (∀ W, Fv.At ⟨P, N, co, cn, cc, oo, on, oc, cs, os⟩ W → Calls Try.prog 9 #[.agg #[.int .i64 P, .int .i64 N, .slice co cn cc, .slice oo on oc], .int .i64 b0, .int .i64 b0] W fun e w' => e = .returned (.tuple #[.int .i64 (0), .bool false]) ∧ Hid (Below W.heap.size W w')) := Lib.hid (fun W h => distance_any ⟨P, N, co, cn, cc, oo, on, oc, cs, os⟩ b0 b0 ib ib false false W h HRT.out HOK.out HCN.out b01 b02 b01 b02 Hb0.out Hb0.out (0) false rfl (rfl))
        have e0 : w2.cell? ⟨b, 0, none⟩ = some (.int .i64 P) := HBB.out.c0
        have e1 : w2.cell? ⟨b, 1, none⟩ = some (.int .i64 N) := HBB.out.c1
        have e2 : w2.cell? ⟨b, 2, none⟩ = some (.slice co cn cc) := HBB.out.c2
        have e3 : w2.cell? ⟨b, 3, none⟩ = some (.slice oo on oc) := HBB.out.c3
        go_wp2_with fail
        (with_reducible refine (Cab.out _ HBB.out.at_).mono ?_)
        rintro e w3 ⟨rfl, q⟩
        have HBB := Lib.hid (HBB.out.keep q.out)
        clear q e0 e1 e2 e3 Cab
        have e0 : w3.cell? ⟨b, 0, none⟩ = some (.int .i64 P) := HBB.out.c0
        have e1 : w3.cell? ⟨b, 1, none⟩ = some (.int .i64 N) := HBB.out.c1
        have e2 : w3.cell? ⟨b, 2, none⟩ = some (.slice co cn cc) := HBB.out.c2
        have e3 : w3.cell? ⟨b, 3, none⟩ = some (.slice oo on oc) := HBB.out.c3
        go_wp2_with fail
        (with_reducible refine (Cba.out _ HBB.out.at_).mono ?_)
        rintro e w4 ⟨rfl, q⟩
        have HBB := Lib.hid (HBB.out.keep q.out)
        clear q e0 e1 e2 e3 Cba
        have e0 : w4.cell? ⟨b, 0, none⟩ = some (.int .i64 P) := HBB.out.c0
        have e1 : w4.cell? ⟨b, 1, none⟩ = some (.int .i64 N) := HBB.out.c1
        have e2 : w4.cell? ⟨b, 2, none⟩ = some (.slice co cn cc) := HBB.out.c2
        have e3 : w4.cell? ⟨b, 3, none⟩ = some (.slice oo on oc) := HBB.out.c3
        go_wp2_with fail
        (with_reducible refine (Cbc.out _ HBB.out.at_).mono ?_)
        rintro e w5 ⟨rfl, q⟩
        have HBB := Lib.hid (HBB.out.keep q.out)
        clear q e0 e1 e2 e3 Cbc
        have e0 : w5.cell? ⟨b, 0, none⟩ = some (.int .i64 P) := HBB.out.c0
        have e1 : w5.cell? ⟨b, 1, none⟩ = some (.int .i64 N) := HBB.out.c1
        have e2 : w5.cell? ⟨b, 2, none⟩ = some (.slice co cn cc) := HBB.out.c2
        have e3 : w5.cell? ⟨b, 3, none⟩ = some (.slice oo on oc) := HBB.out.c3
        go_wp2_with fail
        (with_reducible refine (Cac.out _ HBB.out.at_).mono ?_)
        rintro e w6 ⟨rfl, q⟩
        have HBB := Lib.hid (HBB.out.keep q.out)
        clear q e0 e1 e2 e3 Cac
        have e0 : w6.cell? ⟨b, 0, none⟩ = some (.int .i64 P) := HBB.out.c0
        have e1 : w6.cell? ⟨b, 1, none⟩ = some (.int .i64 N) := HBB.out.c1
        have e2 : w6.cell? ⟨b, 2, none⟩ = some (.slice co cn cc) := HBB.out.c2
        have e3 : w6.cell? ⟨b, 3, none⟩ = some (.slice oo on oc) := HBB.out.c3
        go_wp2_with fail
        (with_reducible refine (Caa.out _ HBB.out.at_).mono ?_)
        rintro e w7 ⟨rfl, q⟩
        have HBB := Lib.hid (HBB.out.keep q.out)
        clear q e0 e1 e2 e3 Caa
        have e0 : w7.cell? ⟨b, 0, none⟩ = some (.int .i64 P) := HBB.out.c0
        have e1 : w7.cell? ⟨b, 1, none⟩ = some (.int .i64 N) := HBB.out.c1
        have e2 : w7.cell? ⟨b, 2, none⟩ = some (.slice co cn cc) := HBB.out.c2
        have e3 : w7.cell? ⟨b, 3, none⟩ = some (.slice oo on oc) := HBB.out.c3
        go_wp2_with fail
        (with_reducible refine (Cbb.out _ HBB.out.at_).mono ?_)
        rintro e w8 ⟨rfl, q⟩
        have HBB := Lib.hid (HBB.out.keep q.out)
        clear q e0 e1 e2 e3 Cbb
        go_wp2_with fail
        (with_reducible refine (HAW.out _).mono ?_)
        rintro e w9 ⟨rfl, q⟩
        have HBB := Lib.hid (HBB.out.keep q)
        clear q
        go_wp2
        go_returns
        exact ⟨rfl, HBB.out.bw⟩
      · obtain ⟨p, hp⟩ : ∃ p, ib - ia = p := ⟨_, rfl⟩
        have p1 : -2199023255552 ≤ p ∧ p ≤ 2199023255552 := by have := at_in Ha.out; have := at_in Hb0.out; omega
        have HP1 : Hid (a ≤ b0 → 0 ≤ p) := Lib.hid (fun z => by have := at_order HRT.out HOK.out HLN.out Ha.out Hb0.out z; omega)
        have HP2 : Hid (b0 ≤ a → p ≤ 0) := Lib.hid (fun z => by have := at_order HRT.out HOK.out HLN.out Hb0.out Ha.out z; omega)
        have Cab : Hid (∀ W, Fv.At ⟨P, N, co, cn, cc, oo, on, oc, cs, os⟩ W → Calls Try.prog 9 #[.agg #[.int .i64 P, .int .i64 N, .slice co cn cc, .slice oo on oc], .int .i64 a, .int .i64 b0] W fun e w' => e = .returned (.tuple #[.int .i64 (p), .bool true]) ∧ Hid (Below W.heap.size W w')) := Lib.hid (fun W h => distance_any ⟨P, N, co, cn, cc, oo, on, oc, cs, os⟩ a b0 ia ib true true W h HRT.out HOK.out HCN.out a1 a2 b01 b02 Ha.out Hb0.out (p) true rfl (by simp; omega))
        have Cba : Hid (∀ W, Fv.At ⟨P, N, co, cn, cc, oo, on, oc, cs, os⟩ W → Calls Try.prog 9 #[.agg #[.int .i64 P, .int .i64 N, .slice co cn cc, .slice oo on oc], .int .i64 b0, .int .i64 a] W fun e w' => e = .returned (.tuple #[.int .i64 (-p), .bool true]) ∧ Hid (Below W.heap.size W w')) := Lib.hid (fun W h => distance_any ⟨P, N, co, cn, cc, oo, on, oc, cs, os⟩ b0 a ib ia true true W h HRT.out HOK.out HCN.out b01 b02 a1 a2 Hb0.out Ha.out (-p) true rfl (by simp; omega))
        have Cbc : Hid (∀ W, Fv.At ⟨P, N, co, cn, cc, oo, on, oc, cs, os⟩ W → Calls Try.prog 9 #[.agg #[.int .i64 P, .int .i64 N, .slice co cn cc, .slice oo on oc], .int .i64 b0, .int .i64 c] W fun e w' => e = .returned (.tuple #[.int .i64 (0), .bool false]) ∧ Hid (Below W.heap.size W w')) := Lib.hid (fun W h => distance_any ⟨P, N, co, cn, cc, oo, on, oc, cs, os⟩ b0 c ib ic true false W h HRT.out HOK.out HCN.out b01 b02 c1 c2 Hb0.out Hc.out (0) false rfl (rfl))
        have Cac : Hid (∀ W, Fv.At ⟨P, N, co, cn, cc, oo, on, oc, cs, os⟩ W → Calls Try.prog 9 #[.agg #[.int .i64 P, .int .i64 N, .slice co cn cc, .slice oo on oc], .int .i64 a, .int .i64 c] W fun e w' => e = .returned (.tuple #[.int .i64 (0), .bool false]) ∧ Hid (Below W.heap.size W w')) := Lib.hid (fun W h => distance_any ⟨P, N, co, cn, cc, oo, on, oc, cs, os⟩ a c ia ic true false W h HRT.out HOK.out HCN.out a1 a2 c1 c2 Ha.out Hc.out (0) false rfl (rfl))
        have Caa : Hid (∀ W, Fv.At ⟨P, N, co, cn, cc, oo, on, oc, cs, os⟩ W → Calls Try.prog 9 #[.agg #[.int .i64 P, .int .i64 N, .slice co cn cc, .slice oo on oc], .int .i64 a, .int .i64 a] W fun e w' => e = .returned (.tuple #[.int .i64 (0), .bool true]) ∧ Hid (Below W.heap.size W w')) := Lib.hid (fun W h => distance_any ⟨P, N, co, cn, cc, oo, on, oc, cs, os⟩ a a ia ia true true W h HRT.out HOK.out HCN.out a1 a2 a1 a2 Ha.out Ha.out (0) true rfl (by simp))
        have Cbb : Hid (∀ W, Fv.At ⟨P, N, co, cn, cc, oo, on, oc, cs, os⟩ W → Calls Try.prog 9 #[.agg #[.int .i64 P, .int .i64 N, .slice co cn cc, .slice oo on oc], .int .i64 b0, .int .i64 b0] W fun e w' => e = .returned (.tuple #[.int .i64 (0), .bool true]) ∧ Hid (Below W.heap.size W w')) := Lib.hid (fun W h => distance_any ⟨P, N, co, cn, cc, oo, on, oc, cs, os⟩ b0 b0 ib ib true true W h HRT.out HOK.out HCN.out b01 b02 b01 b02 Hb0.out Hb0.out (0) true rfl (by simp))
        clear hp
        have e0 : w2.cell? ⟨b, 0, none⟩ = some (.int .i64 P) := HBB.out.c0
        have e1 : w2.cell? ⟨b, 1, none⟩ = some (.int .i64 N) := HBB.out.c1
        have e2 : w2.cell? ⟨b, 2, none⟩ = some (.slice co cn cc) := HBB.out.c2
        have e3 : w2.cell? ⟨b, 3, none⟩ = some (.slice oo on oc) := HBB.out.c3
        go_wp2_with fail
        (with_reducible refine (Cab.out _ HBB.out.at_).mono ?_)
        rintro e w3 ⟨rfl, q⟩
        have HBB := Lib.hid (HBB.out.keep q.out)
        clear q e0 e1 e2 e3 Cab
        have e0 : w3.cell? ⟨b, 0, none⟩ = some (.int .i64 P) := HBB.out.c0
        have e1 : w3.cell? ⟨b, 1, none⟩ = some (.int .i64 N) := HBB.out.c1
        have e2 : w3.cell? ⟨b, 2, none⟩ = some (.slice co cn cc) := HBB.out.c2
        have e3 : w3.cell? ⟨b, 3, none⟩ = some (.slice oo on oc) := HBB.out.c3
        go_wp2_with fail
        (with_reducible refine (Cba.out _ HBB.out.at_).mono ?_)
        rintro e w4 ⟨rfl, q⟩
        have HBB := Lib.hid (HBB.out.keep q.out)
        clear q e0 e1 e2 e3 Cba
        have e0 : w4.cell? ⟨b, 0, none⟩ = some (.int .i64 P) := HBB.out.c0
        have e1 : w4.cell? ⟨b, 1, none⟩ = some (.int .i64 N) := HBB.out.c1
        have e2 : w4.cell? ⟨b, 2, none⟩ = some (.slice co cn cc) := HBB.out.c2
        have e3 : w4.cell? ⟨b, 3, none⟩ = some (.slice oo on oc) := HBB.out.c3
        go_wp2_with fail
        (with_reducible refine (Cbc.out _ HBB.out.at_).mono ?_)
        rintro e w5 ⟨rfl, q⟩
        have HBB := Lib.hid (HBB.out.keep q.out)
        clear q e0 e1 e2 e3 Cbc
        have e0 : w5.cell? ⟨b, 0, none⟩ = some (.int .i64 P) := HBB.out.c0
        have e1 : w5.cell? ⟨b, 1, none⟩ = some (.int .i64 N) := HBB.out.c1
        have e2 : w5.cell? ⟨b, 2, none⟩ = some (.slice co cn cc) := HBB.out.c2
        have e3 : w5.cell? ⟨b, 3, none⟩ = some (.slice oo on oc) := HBB.out.c3
        go_wp2_with fail
        (with_reducible refine (Cac.out _ HBB.out.at_).mono ?_)
        rintro e w6 ⟨rfl, q⟩
        have HBB := Lib.hid (HBB.out.keep q.out)
        clear q e0 e1 e2 e3 Cac
        have e0 : w6.cell? ⟨b, 0, none⟩ = some (.int .i64 P) := HBB.out.c0
        have e1 : w6.cell? ⟨b, 1, none⟩ = some (.int .i64 N) := HBB.out.c1
        have e2 : w6.cell? ⟨b, 2, none⟩ = some (.slice co cn cc) := HBB.out.c2
        have e3 : w6.cell? ⟨b, 3, none⟩ = some (.slice oo on oc) := HBB.out.c3
        go_wp2_with fail
        (with_reducible refine (Caa.out _ HBB.out.at_).mono ?_)
        rintro e w7 ⟨rfl, q⟩
        have HBB := Lib.hid (HBB.out.keep q.out)
        clear q e0 e1 e2 e3 Caa
        have e0 : w7.cell? ⟨b, 0, none⟩ = some (.int .i64 P) := HBB.out.c0
        have e1 : w7.cell? ⟨b, 1, none⟩ = some (.int .i64 N) := HBB.out.c1
        have e2 : w7.cell? ⟨b, 2, none⟩ = some (.slice co cn cc) := HBB.out.c2
        have e3 : w7.cell? ⟨b, 3, none⟩ = some (.slice oo on oc) := HBB.out.c3
        go_wp2_with fail
        (with_reducible refine (Cbb.out _ HBB.out.at_).mono ?_)
        rintro e w8 ⟨rfl, q⟩
        have HBB := Lib.hid (HBB.out.keep q.out)
        clear q e0 e1 e2 e3 Cbb
        rcases Int.lt_trichotomy a b0 with z | z | z
        · have k1 := HP1.out (by omega)
          have t1 : decide (a ≤ b0) = true := by simp; omega
          have t2 : decide (p < 0) = false := by simp; omega
          have t3 : decide (b0 ≤ a) = false := by simp; omega
          clear HP1 HP2
          go_wp2_with fail
          (with_reducible refine (HAW.out _).mono ?_)
          rintro e w9 ⟨rfl, q⟩
          have HBB := Lib.hid (HBB.out.keep q)
          clear q
          go_wp2
          go_returns
          exact ⟨rfl, HBB.out.bw⟩
        · have k1 := HP1.out (by omega)
          have k2 := HP2.out (by omega)
          have t1 : decide (a ≤ b0) = true := by simp; omega
          have t2 : decide (p < 0) = false := by simp; omega
          have t3 : decide (b0 ≤ a) = true := by simp; omega
          have t4 : decide (0 < p) = false := by simp; omega
          clear HP1 HP2 z
          go_wp2_with fail
          (with_reducible refine (HAW.out _).mono ?_)
          rintro e w9 ⟨rfl, q⟩
          have HBB := Lib.hid (HBB.out.keep q)
          clear q
          go_wp2
          go_returns
          exact ⟨rfl, HBB.out.bw⟩
        · have k2 := HP2.out (by omega)
          have t1 : decide (a ≤ b0) = false := by simp; omega
          have t3 : decide (b0 ≤ a) = true := by simp; omega
          have t4 : decide (0 < p) = false := by simp; omega
          clear HP1 HP2
          go_wp2_with fail
          (with_reducible refine (HAW.out _).mono ?_)
          rintro e w9 ⟨rfl, q⟩
          have HBB := Lib.hid (HBB.out.keep q)
          clear q
          go_wp2
          go_returns
          exact ⟨rfl, HBB.out.bw⟩
      · obtain ⟨p, hp⟩ : ∃ p, ib - ia = p := ⟨_, rfl⟩
        have p1 : -2199023255552 ≤ p ∧ p ≤ 2199023255552 := by have := at_in Ha.out; have := at_in Hb0.out; omega
        have HP1 : Hid (a ≤ b0 → 0 ≤ p) := Lib.hid (fun z => by have := at_order HRT.out HOK.out HLN.out Ha.out Hb0.out z; omega)
        have HP2 : Hid (b0 ≤ a → p ≤ 0) := Lib.hid (fun z => by have := at_order HRT.out HOK.out HLN.out Hb0.out Ha.out z; omega)
        obtain ⟨q0, hq0⟩ : ∃ q, ic - ib = q := ⟨_, rfl⟩
        have q1 : -2199023255552 ≤ q0 ∧ q0 ≤ 2199023255552 := by have := at_in Hc.out; have := at_in Hb0.out; omega
        have Cab : Hid (∀ W, Fv.At ⟨P, N, co, cn, cc, oo, on, oc, cs, os⟩ W → Calls Try.prog 9 #[.agg #[.int .i64 P, .int .i64 N, .slice co cn cc, .slice oo on oc], .int .i64 a, .int .i64 b0] W fun e w' => e = .returned (.tuple #[.int .i64 (p), .bool true]) ∧ Hid (Below W.heap.size W w')) := Lib.hid (fun W h => distance_any ⟨P, N, co, cn, cc, oo, on, oc, cs, os⟩ a b0 ia ib true true W h HRT.out HOK.out HCN.out a1 a2 b01 b02 Ha.out Hb0.out (p) true rfl (by simp; omega))
        have Cba : Hid (∀ W, Fv.At ⟨P, N, co, cn, cc, oo, on, oc, cs, os⟩ W → Calls Try.prog 9 #[.agg #[.int .i64 P, .int .i64 N, .slice co cn cc, .slice oo on oc], .int .i64 b0, .int .i64 a] W fun e w' => e = .returned (.tuple #[.int .i64 (-p), .bool true]) ∧ Hid (Below W.heap.size W w')) := Lib.hid (fun W h => distance_any ⟨P, N, co, cn, cc, oo, on, oc, cs, os⟩ b0 a ib ia true true W h HRT.out HOK.out HCN.out b01 b02 a1 a2 Hb0.out Ha.out (-p) true rfl (by simp; omega))
        have Cbc : Hid (∀ W, Fv.At ⟨P, N, co, cn, cc, oo, on, oc, cs, os⟩ W → Calls Try.prog 9 #[.agg #[.int .i64 P, .int .i64 N, .slice co cn cc, .slice oo on oc], .int .i64 b0, .int .i64 c] W fun e w' => e = .returned (.tuple #[.int .i64 (q0), .bool true]) ∧ Hid (Below W.heap.size W w')) := Lib.hid (fun W h => distance_any ⟨P, N, co, cn, cc, oo, on, oc, cs, os⟩ b0 c ib ic true true W h HRT.out HOK.out HCN.out b01 b02 c1 c2 Hb0.out Hc.out (q0) true rfl (by simp; omega))
        have Cac : Hid (∀ W, Fv.At ⟨P, N, co, cn, cc, oo, on, oc, cs, os⟩ W → Calls Try.prog 9 #[.agg #[.int .i64 P, .int .i64 N, .slice co cn cc, .slice oo on oc], .int .i64 a, .int .i64 c] W fun e w' => e = .returned (.tuple #[.int .i64 (p + q0), .bool true]) ∧ Hid (Below W.heap.size W w')) := Lib.hid (fun W h => distance_any ⟨P, N, co, cn, cc, oo, on, oc, cs, os⟩ a c ia ic true true W h HRT.out HOK.out HCN.out a1 a2 c1 c2 Ha.out Hc.out (p + q0) true rfl (by simp; omega))
        have Caa : Hid (∀ W, Fv.At ⟨P, N, co, cn, cc, oo, on, oc, cs, os⟩ W → Calls Try.prog 9 #[.agg #[.int .i64 P, .int .i64 N, .slice co cn cc, .slice oo on oc], .int .i64 a, .int .i64 a] W fun e w' => e = .returned (.tuple #[.int .i64 (0), .bool true]) ∧ Hid (Below W.heap.size W w')) := Lib.hid (fun W h => distance_any ⟨P, N, co, cn, cc, oo, on, oc, cs, os⟩ a a ia ia true true W h HRT.out HOK.out HCN.out a1 a2 a1 a2 Ha.out Ha.out (0) true rfl (by simp))
        have Cbb : Hid (∀ W, Fv.At ⟨P, N, co, cn, cc, oo, on, oc, cs, os⟩ W → Calls Try.prog 9 #[.agg #[.int .i64 P, .int .i64 N, .slice co cn cc, .slice oo on oc], .int .i64 b0, .int .i64 b0] W fun e w' => e = .returned (.tuple #[.int .i64 (0), .bool true]) ∧ Hid (Below W.heap.size W w')) := Lib.hid (fun W h => distance_any ⟨P, N, co, cn, cc, oo, on, oc, cs, os⟩ b0 b0 ib ib true true W h HRT.out HOK.out HCN.out b01 b02 b01 b02 Hb0.out Hb0.out (0) true rfl (by simp))
        clear hp
        clear hq0
        have e0 : w2.cell? ⟨b, 0, none⟩ = some (.int .i64 P) := HBB.out.c0
        have e1 : w2.cell? ⟨b, 1, none⟩ = some (.int .i64 N) := HBB.out.c1
        have e2 : w2.cell? ⟨b, 2, none⟩ = some (.slice co cn cc) := HBB.out.c2
        have e3 : w2.cell? ⟨b, 3, none⟩ = some (.slice oo on oc) := HBB.out.c3
        go_wp2_with fail
        (with_reducible refine (Cab.out _ HBB.out.at_).mono ?_)
        rintro e w3 ⟨rfl, q⟩
        have HBB := Lib.hid (HBB.out.keep q.out)
        clear q e0 e1 e2 e3 Cab
        have e0 : w3.cell? ⟨b, 0, none⟩ = some (.int .i64 P) := HBB.out.c0
        have e1 : w3.cell? ⟨b, 1, none⟩ = some (.int .i64 N) := HBB.out.c1
        have e2 : w3.cell? ⟨b, 2, none⟩ = some (.slice co cn cc) := HBB.out.c2
        have e3 : w3.cell? ⟨b, 3, none⟩ = some (.slice oo on oc) := HBB.out.c3
        go_wp2_with fail
        (with_reducible refine (Cba.out _ HBB.out.at_).mono ?_)
        rintro e w4 ⟨rfl, q⟩
        have HBB := Lib.hid (HBB.out.keep q.out)
        clear q e0 e1 e2 e3 Cba
        have e0 : w4.cell? ⟨b, 0, none⟩ = some (.int .i64 P) := HBB.out.c0
        have e1 : w4.cell? ⟨b, 1, none⟩ = some (.int .i64 N) := HBB.out.c1
        have e2 : w4.cell? ⟨b, 2, none⟩ = some (.slice co cn cc) := HBB.out.c2
        have e3 : w4.cell? ⟨b, 3, none⟩ = some (.slice oo on oc) := HBB.out.c3
        go_wp2_with fail
        (with_reducible refine (Cbc.out _ HBB.out.at_).mono ?_)
        rintro e w5 ⟨rfl, q⟩
        have HBB := Lib.hid (HBB.out.keep q.out)
        clear q e0 e1 e2 e3 Cbc
        have e0 : w5.cell? ⟨b, 0, none⟩ = some (.int .i64 P) := HBB.out.c0
        have e1 : w5.cell? ⟨b, 1, none⟩ = some (.int .i64 N) := HBB.out.c1
        have e2 : w5.cell? ⟨b, 2, none⟩ = some (.slice co cn cc) := HBB.out.c2
        have e3 : w5.cell? ⟨b, 3, none⟩ = some (.slice oo on oc) := HBB.out.c3
        go_wp2_with fail
        (with_reducible refine (Cac.out _ HBB.out.at_).mono ?_)
        rintro e w6 ⟨rfl, q⟩
        have HBB := Lib.hid (HBB.out.keep q.out)
        clear q e0 e1 e2 e3 Cac
        have e0 : w6.cell? ⟨b, 0, none⟩ = some (.int .i64 P) := HBB.out.c0
        have e1 : w6.cell? ⟨b, 1, none⟩ = some (.int .i64 N) := HBB.out.c1
        have e2 : w6.cell? ⟨b, 2, none⟩ = some (.slice co cn cc) := HBB.out.c2
        have e3 : w6.cell? ⟨b, 3, none⟩ = some (.slice oo on oc) := HBB.out.c3
        go_wp2_with fail
        (with_reducible refine (Caa.out _ HBB.out.at_).mono ?_)
        rintro e w7 ⟨rfl, q⟩
        have HBB := Lib.hid (HBB.out.keep q.out)
        clear q e0 e1 e2 e3 Caa
        have e0 : w7.cell? ⟨b, 0, none⟩ = some (.int .i64 P) := HBB.out.c0
        have e1 : w7.cell? ⟨b, 1, none⟩ = some (.int .i64 N) := HBB.out.c1
        have e2 : w7.cell? ⟨b, 2, none⟩ = some (.slice co cn cc) := HBB.out.c2
        have e3 : w7.cell? ⟨b, 3, none⟩ = some (.slice oo on oc) := HBB.out.c3
        go_wp2_with fail
        (with_reducible refine (Cbb.out _ HBB.out.at_).mono ?_)
        rintro e w8 ⟨rfl, q⟩
        have HBB := Lib.hid (HBB.out.keep q.out)
        clear q e0 e1 e2 e3 Cbb
        rcases Int.lt_trichotomy a b0 with z | z | z
        · have k1 := HP1.out (by omega)
          have t1 : decide (a ≤ b0) = true := by simp; omega
          have t2 : decide (p < 0) = false := by simp; omega
          have t3 : decide (b0 ≤ a) = false := by simp; omega
          clear HP1 HP2
          go_wp2_with fail
          (with_reducible refine (HAW.out _).mono ?_)
          rintro e w9 ⟨rfl, q⟩
          have HBB := Lib.hid (HBB.out.keep q)
          clear q
          go_wp2
          go_returns
          exact ⟨rfl, HBB.out.bw⟩
        · have k1 := HP1.out (by omega)
          have k2 := HP2.out (by omega)
          have t1 : decide (a ≤ b0) = true := by simp; omega
          have t2 : decide (p < 0) = false := by simp; omega
          have t3 : decide (b0 ≤ a) = true := by simp; omega
          have t4 : decide (0 < p) = false := by simp; omega
          clear HP1 HP2 z
          go_wp2_with fail
          (with_reducible refine (HAW.out _).mono ?_)
          rintro e w9 ⟨rfl, q⟩
          have HBB := Lib.hid (HBB.out.keep q)
          clear q
          go_wp2
          go_returns
          exact ⟨rfl, HBB.out.bw⟩
        · have k2 := HP2.out (by omega)
          have t1 : decide (a ≤ b0) = false := by simp; omega
          have t3 : decide (b0 ≤ a) = true := by simp; omega
          have t4 : decide (0 < p) = false := by simp; omega
          clear HP1 HP2
          go_wp2_with fail
          (with_reducible refine (HAW.out _).mono ?_)
          rintro e w9 ⟨rfl, q⟩
          have HBB := Lib.hid (HBB.out.keep q)
          clear q
          go_wp2
          go_returns
          exact ⟨rfl, HBB.out.bw⟩
end Go.Proofs.Ytaobhhgalkkmaaa
