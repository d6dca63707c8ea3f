/- FormOrder: the walk. -/
import Derived.Test.YtijpejjkbioekaaW4
namespace Go.Proofs.Ytijpejjkbioekaa
set_option linter.unusedVariables false
set_option linter.unusedSimpArgs false
open Go.ChangeShapes Go.WideShapes Go.ChangeAt Go.RowKit
theorem get_any2 (F : Fv) (i : Int) (w : World) (hF : F.At w) (ok : F.Ok) (G : List Sp) (hG : gr F i = G) :
    Calls Try.prog 9 #[F.v, .int .i64 i] w fun e w' => ∃ (ao : Option Addr) (n c : Nat) (L : List Sp) (k : Int), e = .returned (.tuple #[.slice ao n c, .int .i64 k]) ∧ Hid (Below w.heap.size w w') ∧ Hid (SpAt w' ao n c L) ∧ ((k = 0 ∧ Hid (Told i G ∧ L = G)) ∨ (k = 20 ∧ n = 0 ∧ Hid (¬ Told i G))) := by
  subst hG
  refine (get_any F i w hF ok).mono ?_
  rintro e w' ⟨v, k, rfl, q, hv⟩
  rcases hv.out with ⟨h1, rfl, h3⟩ | ⟨h1, rfl, rfl⟩
  · obtain ⟨ao, c, rfl, z⟩ := own_sp rfl h3
    exact ⟨ao, _, c, _, 0, rfl, Lib.hid q, Lib.hid z, .inl ⟨rfl, Lib.hid ⟨h1, rfl⟩⟩⟩
  · exact ⟨none, 0, 0, [], 20, rfl, Lib.hid q, Lib.hid (SpAt.nil _), .inr ⟨rfl, rfl, Lib.hid h1⟩⟩
set_option maxRecDepth 8000 in
set_option maxHeartbeats 4000000 in
theorem order_all (F : Fv) (i0 k0 : Int) (w : World) (hF : F.At w) (hi1 : -9223372036854775808 ≤ i0) (hi2 : i0 ≤ 9223372036854775807) (hk1 : -9223372036854775808 ≤ k0) (hk2 : k0 ≤ 9223372036854775807) :
    Calls Try.prog 3 #[F.v, .int .i64 i0, .int .i64 k0] w fun e w' => e = .returned (.bool true) ∧ Below w.heap.size w w' := by
  have HAW := Lib.hid (fun W => awake_any W)
  obtain ⟨r, hr⟩ : ∃ r : Bool, r = true ↔ F.Small ∧ F.Rt := by classical exact ⟨decide _, decide_eq_true_iff⟩
  have HRI := Lib.hid (fun W h => right_any2 F W h r hr)
  have HR := Lib.hid hr
  obtain ⟨i, hi⟩ : ∃ q, min i0 k0 = q := ⟨_, rfl⟩
  obtain ⟨k, hk⟩ : ∃ q, max i0 k0 = q := ⟨_, rfl⟩
  have hik : i ≤ k := by omega
  obtain ⟨A, hA⟩ : ∃ q, gr F i = q := ⟨_, rfl⟩
  obtain ⟨B, hB⟩ : ∃ q, gr F k = q := ⟨_, rfl⟩
  have HG1 := Lib.hid (fun (q : r = true) W h => get_any2 F i W h ((hr.1 q).2.ok (hr.1 q).1) A hA)
  have HG2 := Lib.hid (fun (q : r = true) W h => get_any2 F k W h ((hr.1 q).2.ok (hr.1 q).1) B hB)
  have HGA : Hid (r = true → Told i A → Good A) := Lib.hid (fun q h => by rw [← hA] at h ⊢; exact gr_good ((hr.1 q).2.ok (hr.1 q).1) h.2)
  have HGB : Hid (r = true → Told k B → Good B) := Lib.hid (fun q h => by rw [← hB] at h ⊢; exact gr_good ((hr.1 q).2.ok (hr.1 q).1) h.2)
  have HSM : Hid (i = k → A = B) := Lib.hid (fun e => by rw [← hA, ← hB, e])
  have HAH : Hid (r = true → i < k → Told i A → Told k B → ∀ s ∈ A, ∀ u ∈ B, s.2 < u.1) := Lib.hid (fun q h h1 h2 => by
    rw [← hA, ← hB]
    exact gr_order (hr.1 q).2 ((hr.1 q).2.ok (hr.1 q).1) hF.core.len (k - i).toNat (Nat.le_refl _) h h1.1.1 h2.1.2)
  clear hr hA hB
  obtain ⟨P, N, co, cn, cc, oo, on, oc, cs, os⟩ := F
  have LC : Hid (cs.length = cn) := Lib.hid hF.core.len
  have LO : Hid (os.length = on) := Lib.hid hF.odd.len
  have hmc : cn ≤ 9223372036854775807 := Nat.le_trans hF.core.le hF.core.top
  have hmo : on ≤ 9223372036854775807 := Nat.le_trans hF.odd.le hF.odd.top
  obtain ⟨b, hb⟩ : ∃ b, w.heap.size = b := ⟨_, rfl⟩
  obtain ⟨wb, hwb⟩ : ∃ wb, w.alloc (.cells #[.int .i64 P, .int .i64 N, .slice co cn cc, .slice oo on oc] 25) = wb := ⟨_, rfl⟩
  have HBB : Hid (Fbox ⟨P, N, co, cn, cc, oo, on, oc, cs, os⟩ w wb b) := Lib.hid (by rw [← hwb, ← hb]; exact fbox_new hF)
  clear hF
  show Calls Try.prog 3 #[.agg #[.int .i64 P, .int .i64 N, .slice co cn cc, .slice oo on oc], .int .i64 i0, .int .i64 k0] w _
  go_enter Try.func3, Try.ntmps3
  go_upto_region 1 with fail
  clear hwb hb
  have e0 : wb.cell? ⟨b, 0, none⟩ = some (.int .i64 P) := HBB.out.c0
  have e1 : wb.cell? ⟨b, 1, none⟩ = some (.int .i64 N) := HBB.out.c1
  have e2 : wb.cell? ⟨b, 2, none⟩ = some (.slice co cn cc) := HBB.out.c2
  have e3 : wb.cell? ⟨b, 3, none⟩ = some (.slice oo on oc) := HBB.out.c3
  have HRI : Hid (∀ W, Fv.At ⟨P, N, co, cn, cc, oo, on, oc, cs, os⟩ W → Calls Try.prog 7 #[.agg #[.int .i64 P, .int .i64 N, .slice co cn cc, .slice oo on oc]] W fun e w' => e = .returned (.bool r) ∧ Below W.heap.size W w') := HRI
  have HG1 : Hid (r = true → ∀ W, Fv.At ⟨P, N, co, cn, cc, oo, on, oc, cs, os⟩ W → Calls Try.prog 9 #[.agg #[.int .i64 P, .int .i64 N, .slice co cn cc, .slice oo on oc], .int .i64 i] W fun e w' => ∃ (ao : Option Addr) (n c : Nat) (L : List Sp) (k : Int), e = .returned (.tuple #[.slice ao n c, .int .i64 k]) ∧ Hid (Below W.heap.size W w') ∧ Hid (SpAt w' ao n c L) ∧ ((k = 0 ∧ Hid (Told i A ∧ L = A)) ∨ (k = 20 ∧ n = 0 ∧ Hid (¬ Told i A)))) := HG1
  have HG2 : Hid (r = true → ∀ W, Fv.At ⟨P, N, co, cn, cc, oo, on, oc, cs, os⟩ W → Calls Try.prog 9 #[.agg #[.int .i64 P, .int .i64 N, .slice co cn cc, .slice oo on oc], .int .i64 k] W fun e w' => ∃ (ao : Option Addr) (n c : Nat) (L : List Sp) (k' : Int), e = .returned (.tuple #[.slice ao n c, .int .i64 k']) ∧ Hid (Below W.heap.size W w') ∧ Hid (SpAt w' ao n c L) ∧ ((k' = 0 ∧ Hid (Told k B ∧ L = B)) ∨ (k' = 20 ∧ n = 0 ∧ Hid (¬ Told k B)))) := HG2
  go_wp2_with fail
  (with_reducible refine (HRI.out _ HBB.out.at_).mono ?_)
  rintro e w2 ⟨rfl, q⟩
  have HBB := Lib.hid (HBB.out.keep q)
  clear q e0 e1 e2 e3
  cases r
  · go_wp2_with fail
    (with_reducible refine (HAW.out _).mono ?_)
    rintro e w3 ⟨rfl, q⟩
    have HBB := Lib.hid (HBB.out.keep q)
    clear q
    go_wp2
    go_returns
    exact ⟨rfl, HBB.out.bw⟩
  · have e0 : w2.cell? ⟨b, 0, none⟩ = some (.int .i64 P) := HBB.out.c0
    have e1 : w2.cell? ⟨b, 1, none⟩ = some (.int .i64 N) := HBB.out.c1
    have e2 : w2.cell? ⟨b, 2, none⟩ = some (.slice co cn cc) := HBB.out.c2
    have e3 : w2.cell? ⟨b, 3, none⟩ = some (.slice oo on oc) := HBB.out.c3
    go_wp2_with fail
    (with_reducible refine (HG1.out (by first | rfl | trivial) _ HBB.out.at_).mono ?_)
    rintro e w3 ⟨a1, n1, c1, L1, r1, rfl, q, HS1, HR1⟩
    have HBB := Lib.hid (HBB.out.keep q.out)
    clear q e0 e1 e2 e3
    have e0 : w3.cell? ⟨b, 0, none⟩ = some (.int .i64 P) := HBB.out.c0
    have e1 : w3.cell? ⟨b, 1, none⟩ = some (.int .i64 N) := HBB.out.c1
    have e2 : w3.cell? ⟨b, 2, none⟩ = some (.slice co cn cc) := HBB.out.c2
    have e3 : w3.cell? ⟨b, 3, none⟩ = some (.slice oo on oc) := HBB.out.c3
    go_wp2_with fail
    (with_reducible refine (HG2.out (by first | rfl | trivial) _ HBB.out.at_).mono ?_)
    rintro e w4 ⟨a2, n2, c2, L2, r2, rfl, q, HS2, HR2⟩
    have HBB := Lib.hid (HBB.out.keep q.out)
    have HS1 := Lib.hid (HS1.out.keep q.out)
    clear q e0 e1 e2 e3 HG1 HG2 HRI HR
    rcases HR1 with ⟨rfl, HT1⟩ | ⟨rfl, rfl, HT1⟩
    · rcases HR2 with ⟨rfl, HT2⟩ | ⟨rfl, rfl, HT2⟩
      · obtain ⟨h1, rfl⟩ := HT1.out
        obtain ⟨h2, rfl⟩ := HT2.out
        have HA := Lib.hid (HGA.out (by first | rfl | trivial) h1)
        have HB := Lib.hid (HGB.out (by first | rfl | trivial) h2)
        have HC1 := Lib.hid (fun W (h : Below w4.heap.size w4 W) => right_any a1 n1 c1 L1 W (HS1.out.keep h) true ⟨fun _ => HA.out, fun _ => rfl⟩)
        have HC2 := Lib.hid (fun W (h : Below w4.heap.size w4 W) => right_any a2 n2 c2 L2 W (HS2.out.keep h) true ⟨fun _ => HB.out, fun _ => rfl⟩)
        have HC3 := Lib.hid (fun (e : i = k) W (h : Below w4.heap.size w4 W) => same_any a1 a2 n1 c1 n2 c2 L1 L2 W (HS1.out.keep h) (HS2.out.keep h) true ⟨fun _ => HSM.out e, fun _ => rfl⟩)
        have HC4 := Lib.hid (fun (e : i < k) W (h : Below w4.heap.size w4 W) => ahead_any a1 a2 n1 c1 n2 c2 L1 L2 W (HS1.out.keep h) (HS2.out.keep h) HA.out HB.out true ⟨fun _ => HAH.out (by first | rfl | trivial) e h1 h2, fun _ => rfl⟩)
        clear h1 h2 HT1 HT2 HAH HSM HGA HGB HA HB HS1 HS2
        have HK := Lib.hid (Below.refl w4.heap.size w4)
        go_wp2_with fail
        (with_reducible refine (HC1.out _ HK.out).mono ?_)
        rintro e w5 ⟨rfl, q⟩
        have HK := Lib.hid (HK.out.trans (q.mono HK.out.size))
        clear q
        go_wp2_with fail
        (with_reducible refine (HC2.out _ HK.out).mono ?_)
        rintro e w6 ⟨rfl, q⟩
        have HK := Lib.hid (HK.out.trans (q.mono HK.out.size))
        clear q
        by_cases h : i = k
        · have t1 : (i == k) = true := by simp; exact h
          have HE := Lib.hid h
          clear h hik
          go_wp2_with fail
          (with_reducible refine (HC3.out HE.out _ HK.out).mono ?_)
          rintro e w7 ⟨rfl, q⟩
          have HK := Lib.hid (HK.out.trans (q.mono HK.out.size))
          have HBB := Lib.hid (HBB.out.keep HK.out)
          clear q
          go_wp2_with fail
          (with_reducible refine (HAW.out _).mono ?_)
          rintro e w9 ⟨rfl, q⟩
          have HBB := Lib.hid (HBB.out.keep q)
          clear q
          go_wp2
          go_returns
          exact ⟨rfl, HBB.out.bw⟩
        · have t1 : (i == k) = false := by simp; exact h
          have t2 : i < k := by omega
          have HE := Lib.hid t2
          clear h
          go_wp2_with fail
          (with_reducible refine (HC4.out HE.out _ HK.out).mono ?_)
          rintro e w7 ⟨rfl, q⟩
          have HK := Lib.hid (HK.out.trans (q.mono HK.out.size))
          have HBB := Lib.hid (HBB.out.keep HK.out)
          clear q
          go_wp2_with fail
          (with_reducible refine (HAW.out _).mono ?_)
          rintro e w9 ⟨rfl, q⟩
          have HBB := Lib.hid (HBB.out.keep q)
          clear q
          go_wp2
          go_returns
          exact ⟨rfl, HBB.out.bw⟩
      · clear HAH HSM HGA HGB HT1 HT2 HS1 HS2
        go_wp2_with fail
        (with_reducible refine (HAW.out _).mono ?_)
        rintro e w9 ⟨rfl, q⟩
        have HBB := Lib.hid (HBB.out.keep q)
        clear q
        go_wp2
        go_returns
        exact ⟨rfl, HBB.out.bw⟩
    · rcases HR2 with ⟨rfl, HT2⟩ | ⟨rfl, rfl, HT2⟩
      · clear HAH HSM HGA HGB HT1 HT2 HS1 HS2
        go_wp2_with fail
        (with_reducible refine (HAW.out _).mono ?_)
        rintro e w9 ⟨rfl, q⟩
        have HBB := Lib.hid (HBB.out.keep q)
        clear q
        go_wp2
        go_returns
        exact ⟨rfl, HBB.out.bw⟩
      · clear HAH HSM HGA HGB HT1 HT2 HS1 HS2
        go_wp2_with fail
        (with_reducible refine (HAW.out _).mono ?_)
        rintro e w9 ⟨rfl, q⟩
        have HBB := Lib.hid (HBB.out.keep q)
        clear q
        go_wp2
        go_returns
        exact ⟨rfl, HBB.out.bw⟩
end Go.Proofs.Ytijpejjkbioekaa
