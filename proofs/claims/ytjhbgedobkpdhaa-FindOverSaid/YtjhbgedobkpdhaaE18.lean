/- FindBeside: the walk. -/
import Derived.Test.YtjhbgedobkpdhaaEh
namespace Go.Proofs.Ytjhbgedobkpdhaa
set_option linter.unusedVariables false
set_option linter.unusedSimpArgs false
open Go.ChangeShapes Go.WideShapes Go.ChangeAt Go.RowKit
theorem from_at {F : Fv} {t i : Int} (h : FromIs F t i true) : Told i (gr F i) ∧ gr F i ≠ [] ∧ t ≤ hullB (gr F i) := by
  obtain ⟨x, y, z⟩ := h.1 rfl
  exact ⟨⟨x.1, x.2.1⟩, x.2.2, y⟩
theorem till_at {F : Fv} {t i : Int} (h : TillIs F t i true) : Told i (gr F i) ∧ gr F i ≠ [] ∧ hullA (gr F i) ≤ t := by
  obtain ⟨x, y, z⟩ := h.1 rfl
  exact ⟨⟨x.1, x.2.1⟩, x.2.2, y⟩
theorem fit_between {F : Fv} (rt : F.Rt) (ok : F.Ok) (hl : F.cs.length = F.cn) {i j k : Int} (h : Ex F i) (g : Ex F k) (hj : InR j) (ne : gr F j ≠ []) (ij : i < j) (jk : j ≤ k) : Ex F j := by
  refine ⟨hj, ?_, ne⟩
  have a := ex_order rt ok hl h.1 hj ij h.2.2 ne
  have b := (fit_hull h).1
  have c := (fit_hull g).2
  have d := gr_le rt ok hl h.2.2
  rcases Int.lt_or_eq_of_le jk with z | rfl
  · have e := ex_order rt ok hl hj g.1 z ne g.2.2
    have f := gr_le rt ok hl g.2.2
    exact gr_fit rt ok hl ne (by omega) (by omega)
  · exact g.2.1
theorem beside_next {F : Fv} (rt : F.Rt) (ok : F.Ok) (hl : F.cs.length = F.cn) {t i k j : Int} {b : Bool} (h : FromIs F t k true) (g : TillIs F t i true) (ne : k ≠ i) (u : UpIs F i j b) : i < k ∧ b = true ∧ j = k := by
  obtain ⟨x, y, z⟩ := h.1 rfl
  obtain ⟨x', y', z'⟩ := g.1 rfl
  have ik : i < k := by
    rcases Int.lt_or_gt_of_ne ne with q | q
    · have := ex_order rt ok hl x.1 x'.1 q x.2.2 x'.2.2; omega
    · exact q
  refine ⟨ik, ?_⟩
  cases b with
  | false => exact absurd (u.2 rfl k ik x.1) x.2.2
  | true =>
    refine ⟨rfl, ?_⟩
    obtain ⟨j1, j2, j3, j4⟩ := u.1 rfl
    have jk : j ≤ k := by
      rcases Int.lt_or_le k j with q | q
      · exact absurd (j4 k ik q x.1) x.2.2
      · exact q
    have ej := fit_between rt ok hl x' x j1 j3 j2 jk
    have a := gr_le rt ok hl ej.2.2
    rcases Int.lt_or_le (hullB (gr F j)) t with q | q
    · have := z' j ej (by omega); omega
    · have := z j ej q; omega
set_option maxRecDepth 8000 in
set_option maxHeartbeats 4000000 in
theorem beside_walk (F : Fv) (t0 : Int) (w : World) (hF : F.At w) (ht1 : -2147483648 ≤ t0) (ht2 : t0 ≤ 2147483647) : Calls Try.prog 4 #[F.v, .int .i32 t0] w fun e w' => e = .returned (.bool true) ∧ Below w.heap.size w w' := by
  have HAW := Lib.hid (fun W => awake_any W)
  obtain ⟨r, hr⟩ : ∃ r : Bool, r = true ↔ F.Small ∧ F.Rt := by classical exact ⟨decide _, decide_eq_true_iff⟩
  have HRI := Lib.hid (fun W h => right_any2 F W h r hr)
  have HRT : Hid (r = true → F.Rt ∧ F.Ok ∧ F.cn ≤ 10000) := Lib.hid (fun q => ⟨(hr.1 q).2, (hr.1 q).2.ok (hr.1 q).1, Nat.le_trans (hr.1 q).1.1 (by decide)⟩)
  have HLN : Hid (F.cs.length = F.cn) := Lib.hid hF.core.len
  clear hr
  have HFR : Hid (r = true → ∀ t W, -9223372036854775808 ≤ t → t ≤ 9223372036854775807 → Fv.At F W → Calls Try.prog 14 #[F.v, .int .i64 t] W fun e w' => IbOut (FromIs F t) e ∧ Hid (Below W.heap.size W w')) := Lib.hid (fun q t W t1 t2 h => from_any F t W h (HRT.out q).1 (HRT.out q).2.1 (HRT.out q).2.2 t1 t2)
  have HTI : Hid (r = true → ∀ t W, -9223372036854775808 ≤ t → t ≤ 9223372036854775807 → Fv.At F W → Calls Try.prog 15 #[F.v, .int .i64 t] W fun e w' => IbOut (TillIs F t) e ∧ Hid (Below W.heap.size W w')) := Lib.hid (fun q t W t1 t2 h => till_any F t W h (HRT.out q).1 (HRT.out q).2.1 (HRT.out q).2.2 t1 t2)
  have HGE : Hid (r = true → ∀ i W, Fv.At F W → Calls Try.prog 10 #[F.v, .int .i64 i] W fun e w' => ∃ (ao : Option Addr) (n c : Nat) (L : List Sp) (k : Int), e = .returned (.tuple #[.slice ao n c, .int .i64 k]) ∧ Hid (Below W.heap.size W w') ∧ Hid (SpAt w' ao n c L) ∧ ((k = 0 ∧ Hid (Told i (gr F i) ∧ L = gr F i)) ∨ (k = 20 ∧ n = 0 ∧ Hid (¬ Told i (gr F i))))) := Lib.hid (fun q i W h => get_any2 F i W h (HRT.out q).2.1 (gr F i) rfl)
  have HUP : Hid (r = true → ∀ i W, -9223372036854775808 ≤ i → i ≤ 9223372036854775807 → Fv.At F W → Calls Try.prog 17 #[F.v, .int .i64 i] W fun e w' => IbOut (UpIs F i) e ∧ Hid (Below W.heap.size W w')) := Lib.hid (fun q i W i1 i2 h => behind2_any F i W h (HRT.out q).2.1 i1 i2)
  obtain ⟨P, N, co, cn, cc, oo, on, oc, cs, os⟩ := F
  have LC : Hid (cs.length = cn) := Lib.hid hF.core.len
  have LO : Hid (os.length = on) := Lib.hid hF.odd.len
  have hmc : cn ≤ 9223372036854775807 := Nat.le_trans hF.core.le hF.core.top
  have hmo : on ≤ 9223372036854775807 := Nat.le_trans hF.odd.le hF.odd.top
  obtain ⟨b, hb⟩ : ∃ b, w.heap.size = b := ⟨_, rfl⟩
  obtain ⟨wb, hwb⟩ : ∃ wb, w.alloc (.cells #[.int .i64 P, .int .i64 N, .slice co cn cc, .slice oo on oc] 25) = wb := ⟨_, rfl⟩
  have HBB : Hid (Fbox ⟨P, N, co, cn, cc, oo, on, oc, cs, os⟩ w wb b) := Lib.hid (by rw [← hwb, ← hb]; exact fbox_new hF)
  clear hF
  show Calls Try.prog 4 #[.agg #[.int .i64 P, .int .i64 N, .slice co cn cc, .slice oo on oc], .int .i32 t0] w _
  go_enter Try.func4, Try.ntmps4
  go_upto_region 1 with fail
  clear hwb hb
  have e0 : wb.cell? ⟨b, 0, none⟩ = some (.int .i64 P) := HBB.out.c0
  have e1 : wb.cell? ⟨b, 1, none⟩ = some (.int .i64 N) := HBB.out.c1
  have e2 : wb.cell? ⟨b, 2, none⟩ = some (.slice co cn cc) := HBB.out.c2
  have e3 : wb.cell? ⟨b, 3, none⟩ = some (.slice oo on oc) := HBB.out.c3
  have HRI : Hid (∀ W, Fv.At ⟨P, N, co, cn, cc, oo, on, oc, cs, os⟩ W → Calls Try.prog 8 #[.agg #[.int .i64 P, .int .i64 N, .slice co cn cc, .slice oo on oc]] W fun e w' => e = .returned (.bool r) ∧ Below W.heap.size W w') := HRI
  have HRT : Hid (r = true → Fv.Rt ⟨P, N, co, cn, cc, oo, on, oc, cs, os⟩ ∧ Fv.Ok ⟨P, N, co, cn, cc, oo, on, oc, cs, os⟩ ∧ cn ≤ 10000) := HRT
  have HLN : Hid ((Fv.cs ⟨P, N, co, cn, cc, oo, on, oc, cs, os⟩).length = Fv.cn ⟨P, N, co, cn, cc, oo, on, oc, cs, os⟩) := HLN
  have HFR : Hid (r = true → ∀ t W, -9223372036854775808 ≤ t → t ≤ 9223372036854775807 → Fv.At ⟨P, N, co, cn, cc, oo, on, oc, cs, os⟩ W → Calls Try.prog 14 #[.agg #[.int .i64 P, .int .i64 N, .slice co cn cc, .slice oo on oc], .int .i64 t] W fun e w' => IbOut (FromIs ⟨P, N, co, cn, cc, oo, on, oc, cs, os⟩ t) e ∧ Hid (Below W.heap.size W w')) := HFR
  have HTI : Hid (r = true → ∀ t W, -9223372036854775808 ≤ t → t ≤ 9223372036854775807 → Fv.At ⟨P, N, co, cn, cc, oo, on, oc, cs, os⟩ W → Calls Try.prog 15 #[.agg #[.int .i64 P, .int .i64 N, .slice co cn cc, .slice oo on oc], .int .i64 t] W fun e w' => IbOut (TillIs ⟨P, N, co, cn, cc, oo, on, oc, cs, os⟩ t) e ∧ Hid (Below W.heap.size W w')) := HTI
  have HGE : Hid (r = true → ∀ i W, Fv.At ⟨P, N, co, cn, cc, oo, on, oc, cs, os⟩ W → Calls Try.prog 10 #[.agg #[.int .i64 P, .int .i64 N, .slice co cn cc, .slice oo on oc], .int .i64 i] W fun e w' => ∃ (ao : Option Addr) (n c : Nat) (L : List Sp) (k : Int), e = .returned (.tuple #[.slice ao n c, .int .i64 k]) ∧ Hid (Below W.heap.size W w') ∧ Hid (SpAt w' ao n c L) ∧ ((k = 0 ∧ Hid (Told i (gr ⟨P, N, co, cn, cc, oo, on, oc, cs, os⟩ i) ∧ L = gr ⟨P, N, co, cn, cc, oo, on, oc, cs, os⟩ i)) ∨ (k = 20 ∧ n = 0 ∧ Hid (¬ Told i (gr ⟨P, N, co, cn, cc, oo, on, oc, cs, os⟩ i))))) := HGE
  have HUP : Hid (r = true → ∀ i W, -9223372036854775808 ≤ i → i ≤ 9223372036854775807 → Fv.At ⟨P, N, co, cn, cc, oo, on, oc, cs, os⟩ W → Calls Try.prog 17 #[.agg #[.int .i64 P, .int .i64 N, .slice co cn cc, .slice oo on oc], .int .i64 i] W fun e w' => IbOut (UpIs ⟨P, N, co, cn, cc, oo, on, oc, cs, os⟩ i) e ∧ Hid (Below W.heap.size W w')) := HUP
  go_wp2_with fail
  (with_reducible refine (HRI.out _ HBB.out.at_).mono ?_)
  rintro e w2 ⟨rfl, q⟩
  have HBB := Lib.hid (HBB.out.keep q)
  clear q e0 e1 e2 e3 HRI
  cases r
  · clear HRT
    go_wp2_with fail
    (with_reducible refine (HAW.out _).mono ?_)
    rintro e w9 ⟨rfl, q⟩
    have HBB := Lib.hid (HBB.out.keep q)
    clear q
    go_wp2
    go_returns
    exact ⟨rfl, HBB.out.bw⟩
  · have HRD := Lib.hid (HRT.out rfl)
    have e0 : w2.cell? ⟨b, 0, none⟩ = some (.int .i64 P) := HBB.out.c0
    have e1 : w2.cell? ⟨b, 1, none⟩ = some (.int .i64 N) := HBB.out.c1
    have e2 : w2.cell? ⟨b, 2, none⟩ = some (.slice co cn cc) := HBB.out.c2
    have e3 : w2.cell? ⟨b, 3, none⟩ = some (.slice oo on oc) := HBB.out.c3
    obtain ⟨t, ht⟩ : ∃ t : Int, t0 / 2 = t := ⟨_, rfl⟩
    have hta : -9223372036854775808 ≤ t := by omega
    have htb : t ≤ 9223372036854775807 := by omega
    go_upto_region 4 with fail
    clear ht ht1 ht2
    go_wp2_with fail
    (with_reducible refine (HFR.out (by first | rfl | trivial) (t) _ hta htb HBB.out.at_).mono ?_)
    rintro e w3 ⟨⟨i1, p1, rfl, h1⟩, q⟩
    have HBB := Lib.hid (HBB.out.keep q.out)
    have Hh1 := Lib.hid h1
    clear q h1 e0 e1 e2 e3
    have e0 : w3.cell? ⟨b, 0, none⟩ = some (.int .i64 P) := HBB.out.c0
    have e1 : w3.cell? ⟨b, 1, none⟩ = some (.int .i64 N) := HBB.out.c1
    have e2 : w3.cell? ⟨b, 2, none⟩ = some (.slice co cn cc) := HBB.out.c2
    have e3 : w3.cell? ⟨b, 3, none⟩ = some (.slice oo on oc) := HBB.out.c3
    go_wp2_with fail
    (with_reducible refine (HTI.out (by first | rfl | trivial) (t) _ hta htb HBB.out.at_).mono ?_)
    rintro e w4 ⟨⟨i2, r1, rfl, h2⟩, q⟩
    have HBB := Lib.hid (HBB.out.keep q.out)
    have Hh2 := Lib.hid h2
    clear q h2 e0 e1 e2 e3
    cases p1
    · cases r1
      · go_wp2_with fail
        (with_reducible refine (HAW.out _).mono ?_)
        rintro e w9 ⟨rfl, q⟩
        have HBB := Lib.hid (HBB.out.keep q)
        clear q
        go_wp2
        go_returns
        exact ⟨rfl, HBB.out.bw⟩
      · have HT2 := Lib.hid (till_at Hh2.out)
        have HI2 : Hid (-9223372036854775808 ≤ i2 ∧ i2 ≤ 9223372036854775807) := Lib.hid (by have := HT2.out.1.1; unfold InR at this; omega)
        have e0 : w4.cell? ⟨b, 0, none⟩ = some (.int .i64 P) := HBB.out.c0
        have e1 : w4.cell? ⟨b, 1, none⟩ = some (.int .i64 N) := HBB.out.c1
        have e2 : w4.cell? ⟨b, 2, none⟩ = some (.slice co cn cc) := HBB.out.c2
        have e3 : w4.cell? ⟨b, 3, none⟩ = some (.slice oo on oc) := HBB.out.c3
        go_wp2_with fail
        (with_reducible refine (HGE.out (by first | rfl | trivial) i2 _ HBB.out.at_).mono ?_)
        rintro e w6 ⟨a2, n2, c2, L2, k2, rfl, q, HS2, HR2⟩
        have HBB := Lib.hid (HBB.out.keep q.out)
        clear q e0 e1 e2 e3
        obtain ⟨g1, g2, g3⟩ := HT2.out
        obtain ⟨rfl, HT2⟩ : k2 = 0 ∧ Hid (L2 = gr ⟨P, N, co, cn, cc, oo, on, oc, cs, os⟩ i2) := by
          rcases HR2 with ⟨e, h⟩ | ⟨_, _, h⟩
          · exact ⟨e, Lib.hid h.out.2⟩
          · exact absurd g1 h.out
        have z0 := HT2.out
        subst z0
        have l2 := List.length_pos_iff.2 g2
        have m2 := HS2.out.len
        obtain ⟨d2, p2, rfl, hc2⟩ := HS2.out.here (by omega)
        obtain ⟨m, rfl⟩ : ∃ m, n2 = m + 1 := ⟨n2 - 1, by omega⟩
        have x2 := (hc2 0 (by omega)).1
        have y2 : ((gr ⟨P, N, co, cn, cc, oo, on, oc, cs, os⟩ i2)[0]'(by omega)).1 = hullA (gr ⟨P, N, co, cn, cc, oo, on, oc, cs, os⟩ i2) := by unfold hullA; rw [List.getD_eq_getElem?_getD, List.getElem?_eq_getElem (by omega)]; rfl
        have z2 : ((m : Int) + 1 == 0) = false := by simp; omega
        rw [Nat.zero_mul, Nat.add_zero] at x2
        have v2 : m + 1 ≤ 9223372036854775807 := Nat.le_trans HS2.out.le HS2.out.top
        rw [y2] at x2
        have u2 : decide (t < hullA (gr ⟨P, N, co, cn, cc, oo, on, oc, cs, os⟩ i2)) = false := by simp; omega
        generalize hullA (gr ⟨P, N, co, cn, cc, oo, on, oc, cs, os⟩ i2) = hl2 at x2 u2
        clear g1 g2 g3 y2 hc2 l2 m2 HS2 HT2 HR2
        go_wp2_with fail
        (with_reducible refine (HAW.out _).mono ?_)
        rintro e w9 ⟨rfl, q⟩
        have HBB := Lib.hid (HBB.out.keep q)
        clear q
        go_wp2
        go_returns
        exact ⟨rfl, HBB.out.bw⟩
    · have HI1 := Lib.hid (from_at Hh1.out)
      have e0 : w4.cell? ⟨b, 0, none⟩ = some (.int .i64 P) := HBB.out.c0
      have e1 : w4.cell? ⟨b, 1, none⟩ = some (.int .i64 N) := HBB.out.c1
      have e2 : w4.cell? ⟨b, 2, none⟩ = some (.slice co cn cc) := HBB.out.c2
      have e3 : w4.cell? ⟨b, 3, none⟩ = some (.slice oo on oc) := HBB.out.c3
      go_wp2_with fail
      (with_reducible refine (HGE.out (by first | rfl | trivial) i1 _ HBB.out.at_).mono ?_)
      rintro e w5 ⟨a1, n1, c1, L1, k1, rfl, q, HS1, HR1⟩
      have HBB := Lib.hid (HBB.out.keep q.out)
      clear q e0 e1 e2 e3
      obtain ⟨g1, g2, g3⟩ := HI1.out
      obtain ⟨rfl, HT1⟩ : k1 = 0 ∧ Hid (L1 = gr ⟨P, N, co, cn, cc, oo, on, oc, cs, os⟩ i1) := by
        rcases HR1 with ⟨e, h⟩ | ⟨_, _, h⟩
        · exact ⟨e, Lib.hid h.out.2⟩
        · exact absurd g1 h.out
      have z0 := HT1.out
      subst z0
      have l1 := List.length_pos_iff.2 g2
      have m1 := HS1.out.len
      obtain ⟨d1, p1, rfl, hc1⟩ := HS1.out.here (by omega)
      obtain ⟨m, rfl⟩ : ∃ m, n1 = m + 1 := ⟨n1 - 1, by omega⟩
      have x1 := (hc1 m (by omega)).2
      have y1 : ((gr ⟨P, N, co, cn, cc, oo, on, oc, cs, os⟩ i1)[m]'(by omega)).2 = hullB (gr ⟨P, N, co, cn, cc, oo, on, oc, cs, os⟩ i1) := by unfold hullB; rw [show (gr ⟨P, N, co, cn, cc, oo, on, oc, cs, os⟩ i1).length - 1 = m by omega, List.getD_eq_getElem?_getD, List.getElem?_eq_getElem (by omega)]; rfl
      have z1 : ((m : Int) + 1 == 0) = false := by simp; omega
      have v1 : m + 1 ≤ 9223372036854775807 := Nat.le_trans HS1.out.le HS1.out.top
      rw [y1] at x1
      have u1 : decide (hullB (gr ⟨P, N, co, cn, cc, oo, on, oc, cs, os⟩ i1) < t) = false := by simp; omega
      generalize hullB (gr ⟨P, N, co, cn, cc, oo, on, oc, cs, os⟩ i1) = hl1 at x1 u1
      clear g1 g2 g3 y1 hc1 l1 m1 HS1 HT1 HR1
      cases r1
      · go_wp2_with fail
        (with_reducible refine (HAW.out _).mono ?_)
        rintro e w9 ⟨rfl, q⟩
        have HBB := Lib.hid (HBB.out.keep q)
        clear q
        go_wp2
        go_returns
        exact ⟨rfl, HBB.out.bw⟩
      · have HT2 := Lib.hid (till_at Hh2.out)
        have HI2 : Hid (-9223372036854775808 ≤ i2 ∧ i2 ≤ 9223372036854775807) := Lib.hid (by have := HT2.out.1.1; unfold InR at this; omega)
        have e0 : w5.cell? ⟨b, 0, none⟩ = some (.int .i64 P) := HBB.out.c0
        have e1 : w5.cell? ⟨b, 1, none⟩ = some (.int .i64 N) := HBB.out.c1
        have e2 : w5.cell? ⟨b, 2, none⟩ = some (.slice co cn cc) := HBB.out.c2
        have e3 : w5.cell? ⟨b, 3, none⟩ = some (.slice oo on oc) := HBB.out.c3
        go_wp2_with fail
        (with_reducible refine (HGE.out (by first | rfl | trivial) i2 _ HBB.out.at_).mono ?_)
        rintro e w6 ⟨a2, n2, c2, L2, k2, rfl, q, HS2, HR2⟩
        have HBB := Lib.hid (HBB.out.keep q.out)
        clear q e0 e1 e2 e3
        obtain ⟨g1, g2, g3⟩ := HT2.out
        obtain ⟨rfl, HT2⟩ : k2 = 0 ∧ Hid (L2 = gr ⟨P, N, co, cn, cc, oo, on, oc, cs, os⟩ i2) := by
          rcases HR2 with ⟨e, h⟩ | ⟨_, _, h⟩
          · exact ⟨e, Lib.hid h.out.2⟩
          · exact absurd g1 h.out
        have z0 := HT2.out
        subst z0
        have l2 := List.length_pos_iff.2 g2
        have m2 := HS2.out.len
        obtain ⟨d2, p2, rfl, hc2⟩ := HS2.out.here (by omega)
        obtain ⟨m, rfl⟩ : ∃ m, n2 = m + 1 := ⟨n2 - 1, by omega⟩
        have x2 := (hc2 0 (by omega)).1
        have y2 : ((gr ⟨P, N, co, cn, cc, oo, on, oc, cs, os⟩ i2)[0]'(by omega)).1 = hullA (gr ⟨P, N, co, cn, cc, oo, on, oc, cs, os⟩ i2) := by unfold hullA; rw [List.getD_eq_getElem?_getD, List.getElem?_eq_getElem (by omega)]; rfl
        have z2 : ((m : Int) + 1 == 0) = false := by simp; omega
        rw [Nat.zero_mul, Nat.add_zero] at x2
        have v2 : m + 1 ≤ 9223372036854775807 := Nat.le_trans HS2.out.le HS2.out.top
        rw [y2] at x2
        have u2 : decide (t < hullA (gr ⟨P, N, co, cn, cc, oo, on, oc, cs, os⟩ i2)) = false := by simp; omega
        generalize hullA (gr ⟨P, N, co, cn, cc, oo, on, oc, cs, os⟩ i2) = hl2 at x2 u2
        clear g1 g2 g3 y2 hc2 l2 m2 HS2 HT2 HR2
        by_cases hkl : i1 = i2
        · have f1 : (i1 == i2) = true := by simp; exact hkl
          clear hkl
          go_wp2_with fail
          (with_reducible refine (HAW.out _).mono ?_)
          rintro e w9 ⟨rfl, q⟩
          have HBB := Lib.hid (HBB.out.keep q)
          clear q
          go_wp2
          go_returns
          exact ⟨rfl, HBB.out.bw⟩
        · have f1 : (i1 == i2) = false := by simp; exact hkl
          have e0 : w6.cell? ⟨b, 0, none⟩ = some (.int .i64 P) := HBB.out.c0
          have e1 : w6.cell? ⟨b, 1, none⟩ = some (.int .i64 N) := HBB.out.c1
          have e2 : w6.cell? ⟨b, 2, none⟩ = some (.slice co cn cc) := HBB.out.c2
          have e3 : w6.cell? ⟨b, 3, none⟩ = some (.slice oo on oc) := HBB.out.c3
          go_wp2_with fail
          (with_reducible refine (HUP.out (by first | rfl | trivial) (i2) _ HI2.out.1 HI2.out.2 HBB.out.at_).mono ?_)
          rintro e w7 ⟨⟨j, k7, rfl, h7⟩, q⟩
          have HBB := Lib.hid (HBB.out.keep q.out)
          have Hh7 := Lib.hid h7
          clear q h7 e0 e1 e2 e3
          obtain ⟨f2, rfl, rfl⟩ := beside_next HRD.out.1 HRD.out.2.1 HLN.out Hh1.out Hh2.out hkl Hh7.out
          clear hkl
          go_wp2_with fail
          (with_reducible refine (HAW.out _).mono ?_)
          rintro e w9 ⟨rfl, q⟩
          have HBB := Lib.hid (HBB.out.keep q)
          clear q
          go_wp2
          go_returns
          exact ⟨rfl, HBB.out.bw⟩
end Go.Proofs.Ytjhbgedobkpdhaa
