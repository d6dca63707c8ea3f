/- M18 in one. -/
import Derived.Test.YtkhnoikdfelheaaY2
import Derived.Test.YtkhnoikdfelheaaL3
namespace Go.Proofs.Ytkhnoikdfelheaa
set_option linter.unusedVariables false
set_option linter.unusedSimpArgs false
open Go.ChangeShapes Go.WideShapes Go.ChangeAt Go.RowKit
theorem get_told (F : Fv) (x : Int) (W : World) (h : F.At W) (ok : F.Ok) : Calls Try.prog 16 #[F.v, .int .i64 x] W fun e w' => ∃ (ao : Option Addr) (n c : Nat) (L : List Sp) (k : Int), e = .returned (.tuple #[.slice ao n c, .int .i64 k]) ∧ Hid (Below W.heap.size W w') ∧ Hid (SpAt w' ao n c L) ∧ ((k = 0 ∧ Hid (L = gr F x)) ∨ k = 20) := by
  refine (get_any2 F x W h ok _ rfl).mono ?_
  rintro e w' ⟨ao, n, c, L, k, rfl, q, z, (⟨rfl, y⟩ | ⟨rfl, _, _⟩)⟩
  · exact ⟨ao, n, c, L, _, rfl, q, z, .inl ⟨rfl, Lib.hid y.out.2⟩⟩
  · exact ⟨ao, n, c, L, _, rfl, q, z, .inr rfl⟩
theorem canEq_sameF {F H G K : Fv} (h : IsCan F G) (k : IsCan H K) : CanEq F H ↔ SameF G K := canEq_iff h k
/-- Two forms, boxed. -/
structure Two (w W : World) (b1 b2 : Nat) (Fa Fb : Fv) : Prop where
  a : Fbox Fa w W b1
  b : Fbox Fb w W b2
theorem Two.keep {w W W' : World} {b1 b2 : Nat} {Fa Fb : Fv} (h : Two w W b1 b2 Fa Fb) (k : Below W.heap.size W W') : Two w W' b1 b2 Fa Fb := ⟨h.a.keep k, h.b.keep k⟩
set_option maxRecDepth 8000 in
set_option maxHeartbeats 4000000 in
theorem canonSame_walk (F G : Fv) (w : World) (hF : F.At w) (hG : G.At w) :
    Calls Try.prog 4 #[F.v, G.v] w fun e w' => e = .returned (.bool true) ∧ Below w.heap.size w w' := by
  have HAW := Lib.hid (fun W => awake_any W)
  obtain ⟨P1, N1, co1, cn1, cc1, oo1, on1, oc1, cs1, os1⟩ := F
  obtain ⟨P2, N2, co2, cn2, cc2, oo2, on2, oc2, cs2, os2⟩ := G
  obtain ⟨b, hb⟩ : ∃ b, w.heap.size = b := ⟨_, rfl⟩
  obtain ⟨b2, hb2⟩ : ∃ b2, b + 1 = b2 := ⟨_, rfl⟩
  obtain ⟨wb, hwb⟩ : ∃ wb, (w.alloc (.cells #[.int .i64 P1, .int .i64 N1, .slice co1 cn1 cc1, .slice oo1 on1 oc1] 25)).alloc (.cells #[.int .i64 P2, .int .i64 N2, .slice co2 cn2 cc2, .slice oo2 on2 oc2] 25) = wb := ⟨_, rfl⟩
  have KW : Below w.heap.size w wb := by rw [← hwb]; exact ((Below.refl _ w).alloc (Nat.le_refl _) _).alloc (by simp) _
  have B1 : wb.heap[b]? = some (.cells #[.int .i64 P1, .int .i64 N1, .slice co1 cn1 cc1, .slice oo1 on1 oc1] 25) := by rw [← hwb, ← hb, old_al _ _ (by simp), new_al]
  have B2 : wb.heap[b2]? = some (.cells #[.int .i64 P2, .int .i64 N2, .slice co2 cn2 cc2, .slice oo2 on2 oc2] 25) := by rw [← hwb, ← hb2, ← hb, show w.heap.size + 1 = (w.alloc (.cells #[.int .i64 P1, .int .i64 N1, .slice co1 cn1 cc1, .slice oo1 on1 oc1] 25)).heap.size by simp, new_al]
  have HX : Hid (Two w wb b b2 ⟨P1, N1, co1, cn1, cc1, oo1, on1, oc1, cs1, os1⟩ ⟨P2, N2, co2, cn2, cc2, oo2, on2, oc2, cs2, os2⟩) := Lib.hid ⟨fbox_at (hF.keep KW) B1 KW, fbox_at (hG.keep KW) B2 KW⟩
  have LC1 : Hid (cs1.length = cn1) := Lib.hid hF.core.len
  have LC2 : Hid (cs2.length = cn2) := Lib.hid hG.core.len
  have HP1 : -9223372036854775808 ≤ P1 := hF.p1
  have HP2 : P1 ≤ 9223372036854775807 := hF.p2
  have HP3 : -9223372036854775808 ≤ P2 := hG.p1
  have HP4 : P2 ≤ 9223372036854775807 := hG.p2
  clear hF hG KW B1 B2
  obtain ⟨rF, hrF⟩ : ∃ r : Bool, r = true ↔ Fv.Small ⟨P1, N1, co1, cn1, cc1, oo1, on1, oc1, cs1, os1⟩ ∧ Fv.Rt ⟨P1, N1, co1, cn1, cc1, oo1, on1, oc1, cs1, os1⟩ := by classical exact ⟨decide _, decide_eq_true_iff⟩
  obtain ⟨rG, hrG⟩ : ∃ r : Bool, r = true ↔ Fv.Small ⟨P2, N2, co2, cn2, cc2, oo2, on2, oc2, cs2, os2⟩ ∧ Fv.Rt ⟨P2, N2, co2, cn2, cc2, oo2, on2, oc2, cs2, os2⟩ := by classical exact ⟨decide _, decide_eq_true_iff⟩
  obtain ⟨nF, hnF⟩ : ∃ r : Bool, r = true ↔ ∀ o ∈ os1, -200 ≤ o.1 ∧ o.1 ≤ 200 := by classical exact ⟨decide _, decide_eq_true_iff⟩
  obtain ⟨nG, hnG⟩ : ∃ r : Bool, r = true ↔ ∀ o ∈ os2, -200 ≤ o.1 ∧ o.1 ≤ 200 := by classical exact ⟨decide _, decide_eq_true_iff⟩
  have HRF := Lib.hid hrF
  have HRG := Lib.hid hrG
  have HNF := Lib.hid hnF
  have HNG := Lib.hid hnG
  have C1 : Hid (∀ W, Fv.At ⟨P1, N1, co1, cn1, cc1, oo1, on1, oc1, cs1, os1⟩ W → Calls Try.prog 8 #[.agg #[.int .i64 P1, .int .i64 N1, .slice co1 cn1 cc1, .slice oo1 on1 oc1]] W fun e w' => e = .returned (.bool rF) ∧ Below W.heap.size W w') := Lib.hid (fun W h => right_any2 ⟨P1, N1, co1, cn1, cc1, oo1, on1, oc1, cs1, os1⟩ W h rF hrF)
  have C2 : Hid (∀ W, Fv.At ⟨P2, N2, co2, cn2, cc2, oo2, on2, oc2, cs2, os2⟩ W → Calls Try.prog 8 #[.agg #[.int .i64 P2, .int .i64 N2, .slice co2 cn2 cc2, .slice oo2 on2 oc2]] W fun e w' => e = .returned (.bool rG) ∧ Below W.heap.size W w') := Lib.hid (fun W h => right_any2 ⟨P2, N2, co2, cn2, cc2, oo2, on2, oc2, cs2, os2⟩ W h rG hrG)
  have C3 : Hid (∀ W, Fv.At ⟨P1, N1, co1, cn1, cc1, oo1, on1, oc1, cs1, os1⟩ W → Calls Try.prog 15 #[.agg #[.int .i64 P1, .int .i64 N1, .slice co1 cn1 cc1, .slice oo1 on1 oc1], .int .i64 200] W fun e w' => e = .returned (.bool nF) ∧ Below W.heap.size W w') := Lib.hid (fun W h => near_any ⟨P1, N1, co1, cn1, cc1, oo1, on1, oc1, cs1, os1⟩ 200 W h (by decide) (by decide) nF hnF)
  have C4 : Hid (∀ W, Fv.At ⟨P2, N2, co2, cn2, cc2, oo2, on2, oc2, cs2, os2⟩ W → Calls Try.prog 15 #[.agg #[.int .i64 P2, .int .i64 N2, .slice co2 cn2 cc2, .slice oo2 on2 oc2], .int .i64 200] W fun e w' => e = .returned (.bool nG) ∧ Below W.heap.size W w') := Lib.hid (fun W h => near_any ⟨P2, N2, co2, cn2, cc2, oo2, on2, oc2, cs2, os2⟩ 200 W h (by decide) (by decide) nG hnG)
  clear hrF hrG hnF hnG
  show Calls Try.prog 4 #[.agg #[.int .i64 P1, .int .i64 N1, .slice co1 cn1 cc1, .slice oo1 on1 oc1], .agg #[.int .i64 P2, .int .i64 N2, .slice co2 cn2 cc2, .slice oo2 on2 oc2]] w _
  go_enter Try.func4, Try.ntmps4
  go_upto_region 1 with fail
  clear hwb hb hb2
  have a0 : wb.cell? ⟨b, 0, none⟩ = some (.int .i64 P1) := (HX.out).a.c0
  have a1 : wb.cell? ⟨b, 1, none⟩ = some (.int .i64 N1) := (HX.out).a.c1
  have a2 : wb.cell? ⟨b, 2, none⟩ = some (.slice co1 cn1 cc1) := (HX.out).a.c2
  have a3 : wb.cell? ⟨b, 3, none⟩ = some (.slice oo1 on1 oc1) := (HX.out).a.c3
  have a4 : wb.cell? ⟨b2, 0, none⟩ = some (.int .i64 P2) := (HX.out).b.c0
  have a5 : wb.cell? ⟨b2, 1, none⟩ = some (.int .i64 N2) := (HX.out).b.c1
  have a6 : wb.cell? ⟨b2, 2, none⟩ = some (.slice co2 cn2 cc2) := (HX.out).b.c2
  have a7 : wb.cell? ⟨b2, 3, none⟩ = some (.slice oo2 on2 oc2) := (HX.out).b.c3
  go_wp2_with fail
  (with_reducible refine (C1.out _ HX.out.a.at_).mono ?_)
  rintro e v0 ⟨rfl, q⟩
  have HX := Lib.hid (HX.out.keep q)
  clear a0 a1 a2 a3 a4 a5 a6 a7 q C1
  cases rF
  · skip
    go_wp2_with fail
    (with_reducible refine (HAW.out _).mono ?_)
    rintro e wz ⟨rfl, qz⟩
    have HZ := Lib.hid (HX.out.a.bw.trans (qz.mono HX.out.a.bw.size))
    clear qz
    go_wp2
    go_returns
    exact ⟨rfl, HZ.out⟩
  · skip
    have a0 : v0.cell? ⟨b, 0, none⟩ = some (.int .i64 P1) := (HX.out).a.c0
    have a1 : v0.cell? ⟨b, 1, none⟩ = some (.int .i64 N1) := (HX.out).a.c1
    have a2 : v0.cell? ⟨b, 2, none⟩ = some (.slice co1 cn1 cc1) := (HX.out).a.c2
    have a3 : v0.cell? ⟨b, 3, none⟩ = some (.slice oo1 on1 oc1) := (HX.out).a.c3
    have a4 : v0.cell? ⟨b2, 0, none⟩ = some (.int .i64 P2) := (HX.out).b.c0
    have a5 : v0.cell? ⟨b2, 1, none⟩ = some (.int .i64 N2) := (HX.out).b.c1
    have a6 : v0.cell? ⟨b2, 2, none⟩ = some (.slice co2 cn2 cc2) := (HX.out).b.c2
    have a7 : v0.cell? ⟨b2, 3, none⟩ = some (.slice oo2 on2 oc2) := (HX.out).b.c3
    go_wp2_with fail
    (with_reducible refine (C2.out _ HX.out.b.at_).mono ?_)
    rintro e v1 ⟨rfl, q⟩
    have HX := Lib.hid (HX.out.keep q)
    clear a0 a1 a2 a3 a4 a5 a6 a7 q C2
    cases rG
    · skip
      go_wp2_with fail
      (with_reducible refine (HAW.out _).mono ?_)
      rintro e wz ⟨rfl, qz⟩
      have HZ := Lib.hid (HX.out.a.bw.trans (qz.mono HX.out.a.bw.size))
      clear qz
      go_wp2
      go_returns
      exact ⟨rfl, HZ.out⟩
    · skip
      have a0 : v1.cell? ⟨b, 0, none⟩ = some (.int .i64 P1) := (HX.out).a.c0
      have a1 : v1.cell? ⟨b, 1, none⟩ = some (.int .i64 N1) := (HX.out).a.c1
      have a2 : v1.cell? ⟨b, 2, none⟩ = some (.slice co1 cn1 cc1) := (HX.out).a.c2
      have a3 : v1.cell? ⟨b, 3, none⟩ = some (.slice oo1 on1 oc1) := (HX.out).a.c3
      have a4 : v1.cell? ⟨b2, 0, none⟩ = some (.int .i64 P2) := (HX.out).b.c0
      have a5 : v1.cell? ⟨b2, 1, none⟩ = some (.int .i64 N2) := (HX.out).b.c1
      have a6 : v1.cell? ⟨b2, 2, none⟩ = some (.slice co2 cn2 cc2) := (HX.out).b.c2
      have a7 : v1.cell? ⟨b2, 3, none⟩ = some (.slice oo2 on2 oc2) := (HX.out).b.c3
      go_wp2_with fail
      (with_reducible refine (C3.out _ HX.out.a.at_).mono ?_)
      rintro e v2 ⟨rfl, q⟩
      have HX := Lib.hid (HX.out.keep q)
      clear a0 a1 a2 a3 a4 a5 a6 a7 q C3
      cases nF
      · skip
        go_wp2_with fail
        (with_reducible refine (HAW.out _).mono ?_)
        rintro e wz ⟨rfl, qz⟩
        have HZ := Lib.hid (HX.out.a.bw.trans (qz.mono HX.out.a.bw.size))
        clear qz
        go_wp2
        go_returns
        exact ⟨rfl, HZ.out⟩
      · skip
        have a0 : v2.cell? ⟨b, 0, none⟩ = some (.int .i64 P1) := (HX.out).a.c0
        have a1 : v2.cell? ⟨b, 1, none⟩ = some (.int .i64 N1) := (HX.out).a.c1
        have a2 : v2.cell? ⟨b, 2, none⟩ = some (.slice co1 cn1 cc1) := (HX.out).a.c2
        have a3 : v2.cell? ⟨b, 3, none⟩ = some (.slice oo1 on1 oc1) := (HX.out).a.c3
        have a4 : v2.cell? ⟨b2, 0, none⟩ = some (.int .i64 P2) := (HX.out).b.c0
        have a5 : v2.cell? ⟨b2, 1, none⟩ = some (.int .i64 N2) := (HX.out).b.c1
        have a6 : v2.cell? ⟨b2, 2, none⟩ = some (.slice co2 cn2 cc2) := (HX.out).b.c2
        have a7 : v2.cell? ⟨b2, 3, none⟩ = some (.slice oo2 on2 oc2) := (HX.out).b.c3
        go_wp2_with fail
        (with_reducible refine (C4.out _ HX.out.b.at_).mono ?_)
        rintro e v3 ⟨rfl, q⟩
        have HX := Lib.hid (HX.out.keep q)
        clear a0 a1 a2 a3 a4 a5 a6 a7 q C4
        cases nG
        · skip
          go_wp2_with fail
          (with_reducible refine (HAW.out _).mono ?_)
          rintro e wz ⟨rfl, qz⟩
          have HZ := Lib.hid (HX.out.a.bw.trans (qz.mono HX.out.a.bw.size))
          clear qz
          go_wp2
          go_returns
          exact ⟨rfl, HZ.out⟩
        · skip
          have a0 : v3.cell? ⟨b, 0, none⟩ = some (.int .i64 P1) := (HX.out).a.c0
          have a1 : v3.cell? ⟨b, 1, none⟩ = some (.int .i64 N1) := (HX.out).a.c1
          have a2 : v3.cell? ⟨b, 2, none⟩ = some (.slice co1 cn1 cc1) := (HX.out).a.c2
          have a3 : v3.cell? ⟨b, 3, none⟩ = some (.slice oo1 on1 oc1) := (HX.out).a.c3
          have a4 : v3.cell? ⟨b2, 0, none⟩ = some (.int .i64 P2) := (HX.out).b.c0
          have a5 : v3.cell? ⟨b2, 1, none⟩ = some (.int .i64 N2) := (HX.out).b.c1
          have a6 : v3.cell? ⟨b2, 2, none⟩ = some (.slice co2 cn2 cc2) := (HX.out).b.c2
          have a7 : v3.cell? ⟨b2, 3, none⟩ = some (.slice oo2 on2 oc2) := (HX.out).b.c3
          by_cases p1 : 32768 < P1
          · have tp1 : decide (32768 < P1) = true := by simp; exact p1
            go_wp2_with fail
            (with_reducible refine (HAW.out _).mono ?_)
            rintro e wz ⟨rfl, qz⟩
            have HZ := Lib.hid (HX.out.a.bw.trans (qz.mono HX.out.a.bw.size))
            clear qz
            go_wp2
            go_returns
            exact ⟨rfl, HZ.out⟩
          · have tp1 : decide (32768 < P1) = false := by simp; omega
            by_cases p2 : 32768 < P2
            · have tp2 : decide (32768 < P2) = true := by simp; exact p2
              go_wp2_with fail
              (with_reducible refine (HAW.out _).mono ?_)
              rintro e wz ⟨rfl, qz⟩
              have HZ := Lib.hid (HX.out.a.bw.trans (qz.mono HX.out.a.bw.size))
              clear qz
              go_wp2
              go_returns
              exact ⟨rfl, HZ.out⟩
            · have tp2 : decide (32768 < P2) = false := by simp; omega
              have HSR1 := Lib.hid (HRF.out.1 (by first | rfl | trivial))
              have HSR2 := Lib.hid (HRG.out.1 (by first | rfl | trivial))
              have HN1 := Lib.hid (HNF.out.1 (by first | rfl | trivial))
              have HN2 := Lib.hid (HNG.out.1 (by first | rfl | trivial))
              clear HRF HRG HNF HNG
              have D1 : Hid (∀ W, Fv.At ⟨P1, N1, co1, cn1, cc1, oo1, on1, oc1, cs1, os1⟩ W → Calls Try.prog 11 #[.agg #[.int .i64 P1, .int .i64 N1, .slice co1 cn1 cc1, .slice oo1 on1 oc1]] W fun e w' => ∃ p n c l k o m j g s, e = .returned (.agg #[.int .i64 p, .int .i64 n, .slice c l k, .slice o m j]) ∧ Hid (IsCan ⟨P1, N1, co1, cn1, cc1, oo1, on1, oc1, cs1, os1⟩ ⟨p, n, c, l, k, o, m, j, g, s⟩ ∧ Fv.At ⟨p, n, c, l, k, o, m, j, g, s⟩ w') ∧ Below W.heap.size W w') := Lib.hid (fun W h => (form_ok ⟨P1, N1, co1, cn1, cc1, oo1, on1, oc1, cs1, os1⟩ HSR1.out.1.mid HSR1.out.2 W h).mono (by rintro e w' ⟨⟨p, n, c, l, k, o, m, j, g, s⟩, rfl, hc, ho, q⟩; exact ⟨p, n, c, l, k, o, m, j, g, s, rfl, Lib.hid ⟨hc, ho.at_⟩, q⟩))
              have D2 : Hid (∀ W, Fv.At ⟨P2, N2, co2, cn2, cc2, oo2, on2, oc2, cs2, os2⟩ W → Calls Try.prog 11 #[.agg #[.int .i64 P2, .int .i64 N2, .slice co2 cn2 cc2, .slice oo2 on2 oc2]] W fun e w' => ∃ p n c l k o m j g s, e = .returned (.agg #[.int .i64 p, .int .i64 n, .slice c l k, .slice o m j]) ∧ Hid (IsCan ⟨P2, N2, co2, cn2, cc2, oo2, on2, oc2, cs2, os2⟩ ⟨p, n, c, l, k, o, m, j, g, s⟩ ∧ Fv.At ⟨p, n, c, l, k, o, m, j, g, s⟩ w') ∧ Below W.heap.size W w') := Lib.hid (fun W h => (form_ok ⟨P2, N2, co2, cn2, cc2, oo2, on2, oc2, cs2, os2⟩ HSR2.out.1.mid HSR2.out.2 W h).mono (by rintro e w' ⟨⟨p, n, c, l, k, o, m, j, g, s⟩, rfl, hc, ho, q⟩; exact ⟨p, n, c, l, k, o, m, j, g, s, rfl, Lib.hid ⟨hc, ho.at_⟩, q⟩))
              have G1 : Hid (∀ W (x : Int), Fv.At ⟨P1, N1, co1, cn1, cc1, oo1, on1, oc1, cs1, os1⟩ W → Calls Try.prog 16 #[.agg #[.int .i64 P1, .int .i64 N1, .slice co1 cn1 cc1, .slice oo1 on1 oc1], .int .i64 x] W fun e w' => ∃ (ao : Option Addr) (n c : Nat) (L : List Sp) (k : Int), e = .returned (.tuple #[.slice ao n c, .int .i64 k]) ∧ Hid (Below W.heap.size W w') ∧ Hid (SpAt w' ao n c L) ∧ ((k = 0 ∧ Hid (L = gr ⟨P1, N1, co1, cn1, cc1, oo1, on1, oc1, cs1, os1⟩ x)) ∨ k = 20)) := Lib.hid (fun W x h => get_told ⟨P1, N1, co1, cn1, cc1, oo1, on1, oc1, cs1, os1⟩ x W h (HSR1.out.2.okm HSR1.out.1.mid))
              have G2 : Hid (∀ W (x : Int), Fv.At ⟨P2, N2, co2, cn2, cc2, oo2, on2, oc2, cs2, os2⟩ W → Calls Try.prog 16 #[.agg #[.int .i64 P2, .int .i64 N2, .slice co2 cn2 cc2, .slice oo2 on2 oc2], .int .i64 x] W fun e w' => ∃ (ao : Option Addr) (n c : Nat) (L : List Sp) (k : Int), e = .returned (.tuple #[.slice ao n c, .int .i64 k]) ∧ Hid (Below W.heap.size W w') ∧ Hid (SpAt w' ao n c L) ∧ ((k = 0 ∧ Hid (L = gr ⟨P2, N2, co2, cn2, cc2, oo2, on2, oc2, cs2, os2⟩ x)) ∨ k = 20)) := Lib.hid (fun W x h => get_told ⟨P2, N2, co2, cn2, cc2, oo2, on2, oc2, cs2, os2⟩ x W h (HSR2.out.2.okm HSR2.out.1.mid))
              go_wp2_with fail
              clear a0 a1 a2 a3 a4 a5 a6 a7
              go_loopw [5, 6] (fun qq ii wr => ∃ x : Int, -2000 ≤ x ∧ x ≤ 2001 ∧ qq = .bool true ∧ ii = .int .i64 x ∧ Hid (∀ k : Int, -2000 ≤ k → k < x → gr ⟨P1, N1, co1, cn1, cc1, oo1, on1, oc1, cs1, os1⟩ k = gr ⟨P2, N2, co2, cn2, cc2, oo2, on2, oc2, cs2, os2⟩ k) ∧ Hid (Two w wr b b2 ⟨P1, N1, co1, cn1, cc1, oo1, on1, oc1, cs1, os1⟩ ⟨P2, N2, co2, cn2, cc2, oo2, on2, oc2, cs2, os2⟩)) (fun _ ii _ => (2001 - intOf ii).toNat)
              case atStart => exact ⟨-2000, by omega, by omega, rfl, rfl, Lib.hid (fun k h1 h2 => absurd h2 (by omega)), HX⟩
              case round =>
                clear HX
                obtain ⟨x, x1, x2, rfl, rfl, HE, HX⟩ := hrel
                by_cases xl : x ≤ 2000
                · skip
                  have a0 : wr.cell? ⟨b, 0, none⟩ = some (.int .i64 P1) := (HX.out).a.c0
                  have a1 : wr.cell? ⟨b, 1, none⟩ = some (.int .i64 N1) := (HX.out).a.c1
                  have a2 : wr.cell? ⟨b, 2, none⟩ = some (.slice co1 cn1 cc1) := (HX.out).a.c2
                  have a3 : wr.cell? ⟨b, 3, none⟩ = some (.slice oo1 on1 oc1) := (HX.out).a.c3
                  have a4 : wr.cell? ⟨b2, 0, none⟩ = some (.int .i64 P2) := (HX.out).b.c0
                  have a5 : wr.cell? ⟨b2, 1, none⟩ = some (.int .i64 N2) := (HX.out).b.c1
                  have a6 : wr.cell? ⟨b2, 2, none⟩ = some (.slice co2 cn2 cc2) := (HX.out).b.c2
                  have a7 : wr.cell? ⟨b2, 3, none⟩ = some (.slice oo2 on2 oc2) := (HX.out).b.c3
                  go_wp2_with fail
                  (with_reducible refine (G1.out _ _ HX.out.a.at_).mono ?_)
                  rintro e u1 ⟨sa, sn, sc, L1, e1, rfl, q, y1, d1⟩
                  have HX := Lib.hid (HX.out.keep q.out)
                  clear a0 a1 a2 a3 a4 a5 a6 a7 q
                  have a0 : u1.cell? ⟨b, 0, none⟩ = some (.int .i64 P1) := (HX.out).a.c0
                  have a1 : u1.cell? ⟨b, 1, none⟩ = some (.int .i64 N1) := (HX.out).a.c1
                  have a2 : u1.cell? ⟨b, 2, none⟩ = some (.slice co1 cn1 cc1) := (HX.out).a.c2
                  have a3 : u1.cell? ⟨b, 3, none⟩ = some (.slice oo1 on1 oc1) := (HX.out).a.c3
                  have a4 : u1.cell? ⟨b2, 0, none⟩ = some (.int .i64 P2) := (HX.out).b.c0
                  have a5 : u1.cell? ⟨b2, 1, none⟩ = some (.int .i64 N2) := (HX.out).b.c1
                  have a6 : u1.cell? ⟨b2, 2, none⟩ = some (.slice co2 cn2 cc2) := (HX.out).b.c2
                  have a7 : u1.cell? ⟨b2, 3, none⟩ = some (.slice oo2 on2 oc2) := (HX.out).b.c3
                  go_wp2_with fail
                  (with_reducible refine (G2.out _ _ HX.out.b.at_).mono ?_)
                  rintro e u2 ⟨ta, tn, tc, L2, e2, rfl, q, y2, d2⟩
                  have HX := Lib.hid (HX.out.keep q.out)
                  have y1 := Lib.hid (y1.out.keep q.out)
                  clear a0 a1 a2 a3 a4 a5 a6 a7 q
                  rcases d1 with ⟨rfl, h1⟩ | rfl
                  · rcases d2 with ⟨rfl, h2⟩ | rfl
                    · obtain ⟨r, hr⟩ : ∃ r : Bool, r = true ↔ L1 = L2 := by classical exact ⟨decide _, decide_eq_true_iff⟩
                      have HSA := Lib.hid (same_any sa ta sn sc tn tc L1 L2 u2 y1.out y2.out r hr)
                      go_wp2_with fail
                      (with_reducible refine HSA.out.mono ?_)
                      rintro e u3 ⟨rfl, q⟩
                      have HX := Lib.hid (HX.out.keep q)
                      clear q HSA y1 y2
                      cases r
                      · have HCE : Hid (¬ CanEq ⟨P1, N1, co1, cn1, cc1, oo1, on1, oc1, cs1, os1⟩ ⟨P2, N2, co2, cn2, cc2, oo2, on2, oc2, cs2, os2⟩) := Lib.hid (fun z => by
                          have := gr_of_canEq HSR1.out.2 HSR2.out.2 LC1.out LC2.out z x
                          rw [← h1.out, ← h2.out] at this
                          have := hr.2 this
                          cases this)
                        clear hr h1 h2 HE
                        have HS : Hid (∀ W, Two w W b b2 ⟨P1, N1, co1, cn1, cc1, oo1, on1, oc1, cs1, os1⟩ ⟨P2, N2, co2, cn2, cc2, oo2, on2, oc2, cs2, os2⟩ → W.cell? ⟨b, 0, none⟩ = some (.int .i64 P1) ∧ W.cell? ⟨b, 1, none⟩ = some (.int .i64 N1) ∧ W.cell? ⟨b, 2, none⟩ = some (.slice co1 cn1 cc1) ∧ W.cell? ⟨b, 3, none⟩ = some (.slice oo1 on1 oc1) ∧ W.cell? ⟨b2, 0, none⟩ = some (.int .i64 P2) ∧ W.cell? ⟨b2, 1, none⟩ = some (.int .i64 N2) ∧ W.cell? ⟨b2, 2, none⟩ = some (.slice co2 cn2 cc2) ∧ W.cell? ⟨b2, 3, none⟩ = some (.slice oo2 on2 oc2) ∧ Hid (Two w W b b2 ⟨P1, N1, co1, cn1, cc1, oo1, on1, oc1, cs1, os1⟩ ⟨P2, N2, co2, cn2, cc2, oo2, on2, oc2, cs2, os2⟩)) := Lib.hid (fun W h => ⟨h.a.c0, h.a.c1, h.a.c2, h.a.c3, h.b.c0, h.b.c1, h.b.c2, h.b.c3, Lib.hid h⟩)
                        have HSM : Hid (∀ W, Fv.At ⟨P1, N1, co1, cn1, cc1, oo1, on1, oc1, cs1, os1⟩ W → Fv.At ⟨P2, N2, co2, cn2, cc2, oo2, on2, oc2, cs2, os2⟩ W → Calls Try.prog 18 #[.agg #[.int .i64 P1, .int .i64 N1, .slice co1 cn1 cc1, .slice oo1 on1 oc1], .agg #[.int .i64 P2, .int .i64 N2, .slice co2 cn2 cc2, .slice oo2 on2 oc2]] W fun e w' => e = .returned (.bool false) ∧ Below W.heap.size W w') := Lib.hid (fun W h k => same_ok ⟨P1, N1, co1, cn1, cc1, oo1, on1, oc1, cs1, os1⟩ ⟨P2, N2, co2, cn2, cc2, oo2, on2, oc2, cs2, os2⟩ HSR1.out.1.mid HSR2.out.1.mid HSR1.out.2 HSR2.out.2 W h k false ⟨fun z => (by cases z), fun z => absurd z HCE.out⟩)
                        go_upto_region 13 with fail
                        refine wp_region_held_drew (S := (fun W => W.cell? ⟨b, 0, none⟩ = some (.int .i64 P1) ∧ W.cell? ⟨b, 1, none⟩ = some (.int .i64 N1) ∧ W.cell? ⟨b, 2, none⟩ = some (.slice co1 cn1 cc1) ∧ W.cell? ⟨b, 3, none⟩ = some (.slice oo1 on1 oc1) ∧ W.cell? ⟨b2, 0, none⟩ = some (.int .i64 P2) ∧ W.cell? ⟨b2, 1, none⟩ = some (.int .i64 N2) ∧ W.cell? ⟨b2, 2, none⟩ = some (.slice co2 cn2 cc2) ∧ W.cell? ⟨b2, 3, none⟩ = some (.slice oo2 on2 oc2) ∧ Hid (Two w W b b2 ⟨P1, N1, co1, cn1, cc1, oo1, on1, oc1, cs1, os1⟩ ⟨P2, N2, co2, cn2, cc2, oo2, on2, oc2, cs2, os2⟩))) (by kernel_rfl) ?_ (fun hHeld => ?_)
                        · exact HS.out _ (HX.out.keep (Below.refl _ _).drew)
                        refine wpAnyH_take (i := 0) (oi := _) (v := ?_) rfl (by kernel_rfl) (by kernel_rfl) (by kernel_rfl) (fun _ _ _ h => h) (Or.inl ⟨by kernel_rfl, ?_⟩) (by assumption) ?_
                        rotate_left 1
                        focus (intro wq hSw; (try dsimp only at hSw); obtain ⟨s0, s1, s2, s3, s4, s5, s6, s7, s8⟩ := hSw; go_simp; (try with_reducible rfl); done)
                        try simp only [List.getElem_toArray, List.getElem_cons_zero, List.getElem_cons_succ, Act.put, List.setIfInBounds_toArray, List.set_cons_zero, List.set_cons_succ]
                        refine wpAnyH_take (i := 1) (oi := _) (v := ?_) rfl (by kernel_rfl) (by kernel_rfl) (by kernel_rfl) (fun _ _ _ h => h) (Or.inl ⟨by kernel_rfl, ?_⟩) (by assumption) ?_
                        rotate_left 1
                        focus (intro wq hSw; (try dsimp only at hSw); obtain ⟨s0, s1, s2, s3, s4, s5, s6, s7, s8⟩ := hSw; go_simp; (try with_reducible rfl); done)
                        try simp only [List.getElem_toArray, List.getElem_cons_zero, List.getElem_cons_succ, Act.put, List.setIfInBounds_toArray, List.set_cons_zero, List.set_cons_succ]
                        refine wpAnyH_take (i := 3) (oi := _) (v := ?_) rfl (by kernel_rfl) (by kernel_rfl) (by kernel_rfl) (fun _ _ _ h => h) (Or.inl ⟨by kernel_rfl, ?_⟩) (by assumption) ?_
                        rotate_left 1
                        focus (intro wq hSw; (try dsimp only at hSw); obtain ⟨s0, s1, s2, s3, s4, s5, s6, s7, s8⟩ := hSw; go_simp; (try with_reducible rfl); done)
                        try simp only [List.getElem_toArray, List.getElem_cons_zero, List.getElem_cons_succ, Act.put, List.setIfInBounds_toArray, List.set_cons_zero, List.set_cons_succ]
                        refine wpAnyH_ready (rs := [2]) (by kernel_rfl) (by simp) ?_
                        refine AllReadyH.cons (o := _) rfl (fun K hK => ?_) AllReadyH.nil
                        rw [if_pos (by kernel_rfl)]
                        go_simp
                        (go_at_call 18; (with_reducible refine (HSM.out _ hHeld.2.2.2.2.2.2.2.2.out.a.at_ hHeld.2.2.2.2.2.2.2.2.out.b.at_).mono ?_); rintro e z1 ⟨rfl, q⟩)
                        first | refine hK.out _ _ ?_ (fun hHeld => ?_) | (go_wp2_with fail; refine hK.out _ _ ?_ (fun hHeld => ?_))
                        · exact HS.out _ (hHeld.2.2.2.2.2.2.2.2.out.keep q)
                        clear hK K
                        try simp only [List.getElem_toArray, List.getElem_cons_zero, List.getElem_cons_succ, Act.put, List.setIfInBounds_toArray, List.set_cons_zero, List.set_cons_succ]
                        refine wpAnyH_take (i := 4) (oi := _) (v := ?_) rfl (by kernel_rfl) (by kernel_rfl) (by kernel_rfl) (fun _ _ _ h => h) (Or.inl ⟨by kernel_rfl, ?_⟩) (by assumption) ?_
                        rotate_left 1
                        focus (intro wq hSw; (try dsimp only at hSw); obtain ⟨s0, s1, s2, s3, s4, s5, s6, s7, s8⟩ := hSw; go_simp; (try with_reducible rfl); done)
                        try simp only [List.getElem_toArray, List.getElem_cons_zero, List.getElem_cons_succ, Act.put, List.setIfInBounds_toArray, List.set_cons_zero, List.set_cons_succ]
                        refine wpAnyH_take (i := 5) (oi := _) (v := ?_) rfl (by kernel_rfl) (by kernel_rfl) (by kernel_rfl) (fun _ _ _ h => h) (Or.inl ⟨by kernel_rfl, ?_⟩) (by assumption) ?_
                        rotate_left 1
                        focus (intro wq hSw; (try dsimp only at hSw); obtain ⟨s0, s1, s2, s3, s4, s5, s6, s7, s8⟩ := hSw; go_simp; (try with_reducible rfl); done)
                        try simp only [List.getElem_toArray, List.getElem_cons_zero, List.getElem_cons_succ, Act.put, List.setIfInBounds_toArray, List.set_cons_zero, List.set_cons_succ]
                        refine wpAnyH_take (i := 6) (oi := _) (v := ?_) rfl (by kernel_rfl) (by kernel_rfl) (by kernel_rfl) (fun _ _ _ h => h) (Or.inl ⟨by kernel_rfl, ?_⟩) (by assumption) ?_
                        rotate_left 1
                        focus (intro wq hSw; (try dsimp only at hSw); obtain ⟨s0, s1, s2, s3, s4, s5, s6, s7, s8⟩ := hSw; go_simp; (try with_reducible rfl); done)
                        try simp only [List.getElem_toArray, List.getElem_cons_zero, List.getElem_cons_succ, Act.put, List.setIfInBounds_toArray, List.set_cons_zero, List.set_cons_succ]
                        refine wpAnyH_take (i := 8) (oi := _) (v := ?_) rfl (by kernel_rfl) (by kernel_rfl) (by kernel_rfl) (fun _ _ _ h => h) (Or.inl ⟨by kernel_rfl, ?_⟩) (by assumption) ?_
                        rotate_left 1
                        focus (intro wq hSw; (try dsimp only at hSw); obtain ⟨s0, s1, s2, s3, s4, s5, s6, s7, s8⟩ := hSw; go_simp; (try with_reducible rfl); done)
                        try simp only [List.getElem_toArray, List.getElem_cons_zero, List.getElem_cons_succ, Act.put, List.setIfInBounds_toArray, List.set_cons_zero, List.set_cons_succ]
                        refine wpAnyH_take (i := 11) (oi := _) (v := ?_) rfl (by kernel_rfl) (by kernel_rfl) (by kernel_rfl) (fun _ _ _ h => h) (Or.inl ⟨by kernel_rfl, ?_⟩) (by assumption) ?_
                        rotate_left 1
                        focus (intro wq hSw; (try dsimp only at hSw); obtain ⟨s0, s1, s2, s3, s4, s5, s6, s7, s8⟩ := hSw; go_simp; (try with_reducible rfl); done)
                        try simp only [List.getElem_toArray, List.getElem_cons_zero, List.getElem_cons_succ, Act.put, List.setIfInBounds_toArray, List.set_cons_zero, List.set_cons_succ]
                        refine wpAnyH_ready (rs := [7]) (by kernel_rfl) (by simp) ?_
                        refine AllReadyH.cons (o := _) rfl (fun K hK => ?_) AllReadyH.nil
                        rw [if_pos (by kernel_rfl)]
                        go_simp
                        (go_at_call 11; (with_reducible refine (D1.out _ hHeld.2.2.2.2.2.2.2.2.out.a.at_).mono ?_); rintro e z2 ⟨p3, n3, c3, l3, k3, o3, m3, j3, g3, s3, rfl, HA, q⟩)
                        first | refine hK.out _ _ ?_ (fun hHeld => ?_) | (go_wp2_with fail; refine hK.out _ _ ?_ (fun hHeld => ?_))
                        · exact HS.out _ (hHeld.2.2.2.2.2.2.2.2.out.keep q)
                        clear hK K
                        try simp only [List.getElem_toArray, List.getElem_cons_zero, List.getElem_cons_succ, Act.put, List.setIfInBounds_toArray, List.set_cons_zero, List.set_cons_succ]
                        refine wpAnyH_ready (rs := [9]) (by kernel_rfl) (by simp) ?_
                        refine AllReadyH.cons (o := _) rfl (fun K hK => ?_) AllReadyH.nil
                        rw [if_pos (by kernel_rfl)]
                        go_simp
                        (go_at_call 11; (with_reducible refine (D2.out _ hHeld.2.2.2.2.2.2.2.2.out.b.at_).mono ?_); rintro e z3 ⟨p4, n4, c4, l4, k4, o4, m4, j4, g4, s4, rfl, HB, q⟩; have HA := Lib.hid (⟨HA.out.1, HA.out.2.keep q⟩ : _ ∧ _))
                        first | refine hK.out _ _ ?_ (fun hHeld => ?_) | (go_wp2_with fail; refine hK.out _ _ ?_ (fun hHeld => ?_))
                        · exact HS.out _ (hHeld.2.2.2.2.2.2.2.2.out.keep q)
                        clear hK K
                        try simp only [List.getElem_toArray, List.getElem_cons_zero, List.getElem_cons_succ, Act.put, List.setIfInBounds_toArray, List.set_cons_zero, List.set_cons_succ]
                        refine wpAnyH_ready (rs := [10]) (by kernel_rfl) (by simp) ?_
                        refine AllReadyH.cons (o := _) rfl (fun K hK => ?_) AllReadyH.nil
                        rw [if_pos (by kernel_rfl)]
                        go_simp
                        (go_at_call 13; (with_reducible refine (alikeForms_any ⟨p3, n3, c3, l3, k3, o3, m3, j3, g3, s3⟩ ⟨p4, n4, c4, l4, k4, o4, m4, j4, g4, s4⟩ _ HA.out.2 HB.out.2 false ⟨fun z => (by cases z), fun z => absurd ((canEq_sameF HA.out.1 HB.out.1).2 z) HCE.out⟩).mono ?_); rintro e z4 ⟨rfl, q⟩)
                        first | refine hK.out _ _ ?_ (fun hHeld => ?_) | (go_wp2_with fail; refine hK.out _ _ ?_ (fun hHeld => ?_))
                        · exact HS.out _ (hHeld.2.2.2.2.2.2.2.2.out.keep q)
                        clear hK K
                        try simp only [List.getElem_toArray, List.getElem_cons_zero, List.getElem_cons_succ, Act.put, List.setIfInBounds_toArray, List.set_cons_zero, List.set_cons_succ]
                        refine wpAnyH_take (i := 12) (oi := _) (v := ?_) rfl (by kernel_rfl) (by kernel_rfl) (by kernel_rfl) (fun _ _ _ h => h) (Or.inl ⟨by kernel_rfl, ?_⟩) (by assumption) ?_
                        rotate_left 1
                        focus (intro wq hSw; (try dsimp only at hSw); obtain ⟨s0, s1, s2, s3, s4, s5, s6, s7, s8⟩ := hSw; go_simp; (try with_reducible rfl); done)
                        try simp only [List.getElem_toArray, List.getElem_cons_zero, List.getElem_cons_succ, Act.put, List.setIfInBounds_toArray, List.set_cons_zero, List.set_cons_succ]
                        refine wpAnyH_take (i := 13) (oi := _) (v := ?_) rfl (by kernel_rfl) (by kernel_rfl) (by kernel_rfl) (fun _ _ _ h => h) (Or.inl ⟨by kernel_rfl, ?_⟩) (by assumption) ?_
                        rotate_left 1
                        focus (intro wq hSw; (try dsimp only at hSw); obtain ⟨s0, s1, s2, s3, s4, s5, s6, s7, s8⟩ := hSw; go_simp; (try with_reducible rfl); done)
                        try simp only [List.getElem_toArray, List.getElem_cons_zero, List.getElem_cons_succ, Act.put, List.setIfInBounds_toArray, List.set_cons_zero, List.set_cons_succ]
                        refine wpAnyH_take (i := 14) (oi := _) (v := ?_) rfl (by kernel_rfl) (by kernel_rfl) (by kernel_rfl) (fun _ _ _ h => h) (Or.inl ⟨by kernel_rfl, ?_⟩) (by assumption) ?_
                        rotate_left 1
                        focus (intro wq hSw; (try dsimp only at hSw); obtain ⟨s0, s1, s2, s3, s4, s5, s6, s7, s8⟩ := hSw; go_simp; (try with_reducible rfl); done)
                        try simp only [List.getElem_toArray, List.getElem_cons_zero, List.getElem_cons_succ, Act.put, List.setIfInBounds_toArray, List.set_cons_zero, List.set_cons_succ]
                        refine wpAnyH_ready (rs := [15]) (by kernel_rfl) (by simp) ?_
                        refine AllReadyH.cons (o := _) rfl (fun K hK => ?_) AllReadyH.nil
                        rw [if_pos (by kernel_rfl)]
                        go_simp
                        (go_at_call 9; (with_reducible refine (HAW.out _).mono ?_); rintro e z5 ⟨rfl, q⟩)
                        first | refine hK.out _ _ ?_ (fun hHeld => ?_) | (go_wp2_with fail; refine hK.out _ _ ?_ (fun hHeld => ?_))
                        · exact HS.out _ (hHeld.2.2.2.2.2.2.2.2.out.keep q)
                        clear hK K
                        try simp only [List.getElem_toArray, List.getElem_cons_zero, List.getElem_cons_succ, Act.put, List.setIfInBounds_toArray, List.set_cons_zero, List.set_cons_succ]
                        refine wpAnyH_take (i := 16) (oi := _) (v := ?_) rfl (by kernel_rfl) (by kernel_rfl) (by kernel_rfl) (fun _ _ _ h => h) (Or.inl ⟨by kernel_rfl, ?_⟩) (by assumption) ?_
                        rotate_left 1
                        focus (intro wq hSw; (try dsimp only at hSw); obtain ⟨s0, s1, s2, s3, s4, s5, s6, s7, s8⟩ := hSw; go_simp; (try with_reducible rfl); done)
                        try simp only [List.getElem_toArray, List.getElem_cons_zero, List.getElem_cons_succ, Act.put, List.setIfInBounds_toArray, List.set_cons_zero, List.set_cons_succ]
                        refine wpAnyH_take (i := 17) (oi := _) (v := ?_) rfl (by kernel_rfl) (by kernel_rfl) (by kernel_rfl) (fun _ _ _ h => h) (Or.inl ⟨by kernel_rfl, ?_⟩) (by assumption) ?_
                        rotate_left 1
                        focus (intro wq hSw; (try dsimp only at hSw); obtain ⟨s0, s1, s2, s3, s4, s5, s6, s7, s8⟩ := hSw; go_simp; (try with_reducible rfl); done)
                        try simp only [List.getElem_toArray, List.getElem_cons_zero, List.getElem_cons_succ, Act.put, List.setIfInBounds_toArray, List.set_cons_zero, List.set_cons_succ]
                        refine wpAnyH_done (by kernel_rfl) ?_ _
                        go_wp2
                        go_returns
                        exact ⟨rfl, hHeld.2.2.2.2.2.2.2.2.out.a.bw⟩
                      · have HE2 : Hid (∀ k : Int, -2000 ≤ k → k < x + 1 → gr ⟨P1, N1, co1, cn1, cc1, oo1, on1, oc1, cs1, os1⟩ k = gr ⟨P2, N2, co2, cn2, cc2, oo2, on2, oc2, cs2, os2⟩ k) := Lib.hid (fun k k1 k2 => by
                          by_cases q : k < x
                          · exact HE.out k k1 q
                          · obtain rfl : k = x := by omega
                            rw [← h1.out, ← h2.out]; exact hr.1 rfl)
                        clear hr h1 h2 HE
                        go_wp2
                        go_roundw
                        case rel => exact ⟨x + 1, by omega, by omega, rfl, by go_num, HE2, HX⟩
                        case measure => simp [intOf]; omega
                    · skip
                      go_wp2_with fail
                      (with_reducible refine (HAW.out _).mono ?_)
                      rintro e wz ⟨rfl, qz⟩
                      have HZ := Lib.hid (HX.out.a.bw.trans (qz.mono HX.out.a.bw.size))
                      clear qz
                      go_wp2
                      go_returns
                      exact ⟨rfl, HZ.out⟩
                  · skip
                    go_wp2_with fail
                    (with_reducible refine (HAW.out _).mono ?_)
                    rintro e wz ⟨rfl, qz⟩
                    have HZ := Lib.hid (HX.out.a.bw.trans (qz.mono HX.out.a.bw.size))
                    clear qz
                    go_wp2
                    go_returns
                    exact ⟨rfl, HZ.out⟩
                · have HCE : Hid (CanEq ⟨P1, N1, co1, cn1, cc1, oo1, on1, oc1, cs1, os1⟩ ⟨P2, N2, co2, cn2, cc2, oo2, on2, oc2, cs2, os2⟩) := Lib.hid (canEq_of HSR1.out.2 HSR2.out.2 LC1.out LC2.out HSR1.out.1.1 HSR2.out.1.1 HN1.out HN2.out (fun i i1 i2 => HE.out i i1 (by omega)))
                  clear HE
                  have HS : Hid (∀ W, Two w W b b2 ⟨P1, N1, co1, cn1, cc1, oo1, on1, oc1, cs1, os1⟩ ⟨P2, N2, co2, cn2, cc2, oo2, on2, oc2, cs2, os2⟩ → W.cell? ⟨b, 0, none⟩ = some (.int .i64 P1) ∧ W.cell? ⟨b, 1, none⟩ = some (.int .i64 N1) ∧ W.cell? ⟨b, 2, none⟩ = some (.slice co1 cn1 cc1) ∧ W.cell? ⟨b, 3, none⟩ = some (.slice oo1 on1 oc1) ∧ W.cell? ⟨b2, 0, none⟩ = some (.int .i64 P2) ∧ W.cell? ⟨b2, 1, none⟩ = some (.int .i64 N2) ∧ W.cell? ⟨b2, 2, none⟩ = some (.slice co2 cn2 cc2) ∧ W.cell? ⟨b2, 3, none⟩ = some (.slice oo2 on2 oc2) ∧ Hid (Two w W b b2 ⟨P1, N1, co1, cn1, cc1, oo1, on1, oc1, cs1, os1⟩ ⟨P2, N2, co2, cn2, cc2, oo2, on2, oc2, cs2, os2⟩)) := Lib.hid (fun W h => ⟨h.a.c0, h.a.c1, h.a.c2, h.a.c3, h.b.c0, h.b.c1, h.b.c2, h.b.c3, Lib.hid h⟩)
                  have HSM : Hid (∀ W, Fv.At ⟨P1, N1, co1, cn1, cc1, oo1, on1, oc1, cs1, os1⟩ W → Fv.At ⟨P2, N2, co2, cn2, cc2, oo2, on2, oc2, cs2, os2⟩ W → Calls Try.prog 18 #[.agg #[.int .i64 P1, .int .i64 N1, .slice co1 cn1 cc1, .slice oo1 on1 oc1], .agg #[.int .i64 P2, .int .i64 N2, .slice co2 cn2 cc2, .slice oo2 on2 oc2]] W fun e w' => e = .returned (.bool true) ∧ Below W.heap.size W w') := Lib.hid (fun W h k => same_ok ⟨P1, N1, co1, cn1, cc1, oo1, on1, oc1, cs1, os1⟩ ⟨P2, N2, co2, cn2, cc2, oo2, on2, oc2, cs2, os2⟩ HSR1.out.1.mid HSR2.out.1.mid HSR1.out.2 HSR2.out.2 W h k true ⟨fun _ => HCE.out, fun _ => rfl⟩)
                  go_upto_region 13 with fail
                  refine wp_region_held_drew (S := (fun W => W.cell? ⟨b, 0, none⟩ = some (.int .i64 P1) ∧ W.cell? ⟨b, 1, none⟩ = some (.int .i64 N1) ∧ W.cell? ⟨b, 2, none⟩ = some (.slice co1 cn1 cc1) ∧ W.cell? ⟨b, 3, none⟩ = some (.slice oo1 on1 oc1) ∧ W.cell? ⟨b2, 0, none⟩ = some (.int .i64 P2) ∧ W.cell? ⟨b2, 1, none⟩ = some (.int .i64 N2) ∧ W.cell? ⟨b2, 2, none⟩ = some (.slice co2 cn2 cc2) ∧ W.cell? ⟨b2, 3, none⟩ = some (.slice oo2 on2 oc2) ∧ Hid (Two w W b b2 ⟨P1, N1, co1, cn1, cc1, oo1, on1, oc1, cs1, os1⟩ ⟨P2, N2, co2, cn2, cc2, oo2, on2, oc2, cs2, os2⟩))) (by kernel_rfl) ?_ (fun hHeld => ?_)
                  · exact HS.out _ (HX.out.keep (Below.refl _ _).drew)
                  refine wpAnyH_take (i := 0) (oi := _) (v := ?_) rfl (by kernel_rfl) (by kernel_rfl) (by kernel_rfl) (fun _ _ _ h => h) (Or.inl ⟨by kernel_rfl, ?_⟩) (by assumption) ?_
                  rotate_left 1
                  focus (intro wq hSw; (try dsimp only at hSw); obtain ⟨s0, s1, s2, s3, s4, s5, s6, s7, s8⟩ := hSw; go_simp; (try with_reducible rfl); done)
                  try simp only [List.getElem_toArray, List.getElem_cons_zero, List.getElem_cons_succ, Act.put, List.setIfInBounds_toArray, List.set_cons_zero, List.set_cons_succ]
                  refine wpAnyH_take (i := 1) (oi := _) (v := ?_) rfl (by kernel_rfl) (by kernel_rfl) (by kernel_rfl) (fun _ _ _ h => h) (Or.inl ⟨by kernel_rfl, ?_⟩) (by assumption) ?_
                  rotate_left 1
                  focus (intro wq hSw; (try dsimp only at hSw); obtain ⟨s0, s1, s2, s3, s4, s5, s6, s7, s8⟩ := hSw; go_simp; (try with_reducible rfl); done)
                  try simp only [List.getElem_toArray, List.getElem_cons_zero, List.getElem_cons_succ, Act.put, List.setIfInBounds_toArray, List.set_cons_zero, List.set_cons_succ]
                  refine wpAnyH_take (i := 3) (oi := _) (v := ?_) rfl (by kernel_rfl) (by kernel_rfl) (by kernel_rfl) (fun _ _ _ h => h) (Or.inl ⟨by kernel_rfl, ?_⟩) (by assumption) ?_
                  rotate_left 1
                  focus (intro wq hSw; (try dsimp only at hSw); obtain ⟨s0, s1, s2, s3, s4, s5, s6, s7, s8⟩ := hSw; go_simp; (try with_reducible rfl); done)
                  try simp only [List.getElem_toArray, List.getElem_cons_zero, List.getElem_cons_succ, Act.put, List.setIfInBounds_toArray, List.set_cons_zero, List.set_cons_succ]
                  refine wpAnyH_ready (rs := [2]) (by kernel_rfl) (by simp) ?_
                  refine AllReadyH.cons (o := _) rfl (fun K hK => ?_) AllReadyH.nil
                  rw [if_pos (by kernel_rfl)]
                  go_simp
                  (go_at_call 18; (with_reducible refine (HSM.out _ hHeld.2.2.2.2.2.2.2.2.out.a.at_ hHeld.2.2.2.2.2.2.2.2.out.b.at_).mono ?_); rintro e z1 ⟨rfl, q⟩)
                  first | refine hK.out _ _ ?_ (fun hHeld => ?_) | (go_wp2_with fail; refine hK.out _ _ ?_ (fun hHeld => ?_))
                  · exact HS.out _ (hHeld.2.2.2.2.2.2.2.2.out.keep q)
                  clear hK K
                  try simp only [List.getElem_toArray, List.getElem_cons_zero, List.getElem_cons_succ, Act.put, List.setIfInBounds_toArray, List.set_cons_zero, List.set_cons_succ]
                  refine wpAnyH_take (i := 4) (oi := _) (v := ?_) rfl (by kernel_rfl) (by kernel_rfl) (by kernel_rfl) (fun _ _ _ h => h) (Or.inl ⟨by kernel_rfl, ?_⟩) (by assumption) ?_
                  rotate_left 1
                  focus (intro wq hSw; (try dsimp only at hSw); obtain ⟨s0, s1, s2, s3, s4, s5, s6, s7, s8⟩ := hSw; go_simp; (try with_reducible rfl); done)
                  try simp only [List.getElem_toArray, List.getElem_cons_zero, List.getElem_cons_succ, Act.put, List.setIfInBounds_toArray, List.set_cons_zero, List.set_cons_succ]
                  refine wpAnyH_take (i := 5) (oi := _) (v := ?_) rfl (by kernel_rfl) (by kernel_rfl) (by kernel_rfl) (fun _ _ _ h => h) (Or.inl ⟨by kernel_rfl, ?_⟩) (by assumption) ?_
                  rotate_left 1
                  focus (intro wq hSw; (try dsimp only at hSw); obtain ⟨s0, s1, s2, s3, s4, s5, s6, s7, s8⟩ := hSw; go_simp; (try with_reducible rfl); done)
                  try simp only [List.getElem_toArray, List.getElem_cons_zero, List.getElem_cons_succ, Act.put, List.setIfInBounds_toArray, List.set_cons_zero, List.set_cons_succ]
                  refine wpAnyH_take (i := 6) (oi := _) (v := ?_) rfl (by kernel_rfl) (by kernel_rfl) (by kernel_rfl) (fun _ _ _ h => h) (Or.inl ⟨by kernel_rfl, ?_⟩) (by assumption) ?_
                  rotate_left 1
                  focus (intro wq hSw; (try dsimp only at hSw); obtain ⟨s0, s1, s2, s3, s4, s5, s6, s7, s8⟩ := hSw; go_simp; (try with_reducible rfl); done)
                  try simp only [List.getElem_toArray, List.getElem_cons_zero, List.getElem_cons_succ, Act.put, List.setIfInBounds_toArray, List.set_cons_zero, List.set_cons_succ]
                  refine wpAnyH_take (i := 8) (oi := _) (v := ?_) rfl (by kernel_rfl) (by kernel_rfl) (by kernel_rfl) (fun _ _ _ h => h) (Or.inl ⟨by kernel_rfl, ?_⟩) (by assumption) ?_
                  rotate_left 1
                  focus (intro wq hSw; (try dsimp only at hSw); obtain ⟨s0, s1, s2, s3, s4, s5, s6, s7, s8⟩ := hSw; go_simp; (try with_reducible rfl); done)
                  try simp only [List.getElem_toArray, List.getElem_cons_zero, List.getElem_cons_succ, Act.put, List.setIfInBounds_toArray, List.set_cons_zero, List.set_cons_succ]
                  refine wpAnyH_take (i := 11) (oi := _) (v := ?_) rfl (by kernel_rfl) (by kernel_rfl) (by kernel_rfl) (fun _ _ _ h => h) (Or.inl ⟨by kernel_rfl, ?_⟩) (by assumption) ?_
                  rotate_left 1
                  focus (intro wq hSw; (try dsimp only at hSw); obtain ⟨s0, s1, s2, s3, s4, s5, s6, s7, s8⟩ := hSw; go_simp; (try with_reducible rfl); done)
                  try simp only [List.getElem_toArray, List.getElem_cons_zero, List.getElem_cons_succ, Act.put, List.setIfInBounds_toArray, List.set_cons_zero, List.set_cons_succ]
                  refine wpAnyH_ready (rs := [7]) (by kernel_rfl) (by simp) ?_
                  refine AllReadyH.cons (o := _) rfl (fun K hK => ?_) AllReadyH.nil
                  rw [if_pos (by kernel_rfl)]
                  go_simp
                  (go_at_call 11; (with_reducible refine (D1.out _ hHeld.2.2.2.2.2.2.2.2.out.a.at_).mono ?_); rintro e z2 ⟨p3, n3, c3, l3, k3, o3, m3, j3, g3, s3, rfl, HA, q⟩)
                  first | refine hK.out _ _ ?_ (fun hHeld => ?_) | (go_wp2_with fail; refine hK.out _ _ ?_ (fun hHeld => ?_))
                  · exact HS.out _ (hHeld.2.2.2.2.2.2.2.2.out.keep q)
                  clear hK K
                  try simp only [List.getElem_toArray, List.getElem_cons_zero, List.getElem_cons_succ, Act.put, List.setIfInBounds_toArray, List.set_cons_zero, List.set_cons_succ]
                  refine wpAnyH_ready (rs := [9]) (by kernel_rfl) (by simp) ?_
                  refine AllReadyH.cons (o := _) rfl (fun K hK => ?_) AllReadyH.nil
                  rw [if_pos (by kernel_rfl)]
                  go_simp
                  (go_at_call 11; (with_reducible refine (D2.out _ hHeld.2.2.2.2.2.2.2.2.out.b.at_).mono ?_); rintro e z3 ⟨p4, n4, c4, l4, k4, o4, m4, j4, g4, s4, rfl, HB, q⟩; have HA := Lib.hid (⟨HA.out.1, HA.out.2.keep q⟩ : _ ∧ _))
                  first | refine hK.out _ _ ?_ (fun hHeld => ?_) | (go_wp2_with fail; refine hK.out _ _ ?_ (fun hHeld => ?_))
                  · exact HS.out _ (hHeld.2.2.2.2.2.2.2.2.out.keep q)
                  clear hK K
                  try simp only [List.getElem_toArray, List.getElem_cons_zero, List.getElem_cons_succ, Act.put, List.setIfInBounds_toArray, List.set_cons_zero, List.set_cons_succ]
                  refine wpAnyH_ready (rs := [10]) (by kernel_rfl) (by simp) ?_
                  refine AllReadyH.cons (o := _) rfl (fun K hK => ?_) AllReadyH.nil
                  rw [if_pos (by kernel_rfl)]
                  go_simp
                  (go_at_call 13; (with_reducible refine (alikeForms_any ⟨p3, n3, c3, l3, k3, o3, m3, j3, g3, s3⟩ ⟨p4, n4, c4, l4, k4, o4, m4, j4, g4, s4⟩ _ HA.out.2 HB.out.2 true ⟨fun _ => (canEq_sameF HA.out.1 HB.out.1).1 HCE.out, fun _ => rfl⟩).mono ?_); rintro e z4 ⟨rfl, q⟩)
                  first | refine hK.out _ _ ?_ (fun hHeld => ?_) | (go_wp2_with fail; refine hK.out _ _ ?_ (fun hHeld => ?_))
                  · exact HS.out _ (hHeld.2.2.2.2.2.2.2.2.out.keep q)
                  clear hK K
                  try simp only [List.getElem_toArray, List.getElem_cons_zero, List.getElem_cons_succ, Act.put, List.setIfInBounds_toArray, List.set_cons_zero, List.set_cons_succ]
                  refine wpAnyH_take (i := 12) (oi := _) (v := ?_) rfl (by kernel_rfl) (by kernel_rfl) (by kernel_rfl) (fun _ _ _ h => h) (Or.inl ⟨by kernel_rfl, ?_⟩) (by assumption) ?_
                  rotate_left 1
                  focus (intro wq hSw; (try dsimp only at hSw); obtain ⟨s0, s1, s2, s3, s4, s5, s6, s7, s8⟩ := hSw; go_simp; (try with_reducible rfl); done)
                  try simp only [List.getElem_toArray, List.getElem_cons_zero, List.getElem_cons_succ, Act.put, List.setIfInBounds_toArray, List.set_cons_zero, List.set_cons_succ]
                  refine wpAnyH_take (i := 13) (oi := _) (v := ?_) rfl (by kernel_rfl) (by kernel_rfl) (by kernel_rfl) (fun _ _ _ h => h) (Or.inl ⟨by kernel_rfl, ?_⟩) (by assumption) ?_
                  rotate_left 1
                  focus (intro wq hSw; (try dsimp only at hSw); obtain ⟨s0, s1, s2, s3, s4, s5, s6, s7, s8⟩ := hSw; go_simp; (try with_reducible rfl); done)
                  try simp only [List.getElem_toArray, List.getElem_cons_zero, List.getElem_cons_succ, Act.put, List.setIfInBounds_toArray, List.set_cons_zero, List.set_cons_succ]
                  refine wpAnyH_take (i := 14) (oi := _) (v := ?_) rfl (by kernel_rfl) (by kernel_rfl) (by kernel_rfl) (fun _ _ _ h => h) (Or.inl ⟨by kernel_rfl, ?_⟩) (by assumption) ?_
                  rotate_left 1
                  focus (intro wq hSw; (try dsimp only at hSw); obtain ⟨s0, s1, s2, s3, s4, s5, s6, s7, s8⟩ := hSw; go_simp; (try with_reducible rfl); done)
                  try simp only [List.getElem_toArray, List.getElem_cons_zero, List.getElem_cons_succ, Act.put, List.setIfInBounds_toArray, List.set_cons_zero, List.set_cons_succ]
                  refine wpAnyH_ready (rs := [15]) (by kernel_rfl) (by simp) ?_
                  refine AllReadyH.cons (o := _) rfl (fun K hK => ?_) AllReadyH.nil
                  rw [if_pos (by kernel_rfl)]
                  go_simp
                  (go_at_call 9; (with_reducible refine (HAW.out _).mono ?_); rintro e z5 ⟨rfl, q⟩)
                  first | refine hK.out _ _ ?_ (fun hHeld => ?_) | (go_wp2_with fail; refine hK.out _ _ ?_ (fun hHeld => ?_))
                  · exact HS.out _ (hHeld.2.2.2.2.2.2.2.2.out.keep q)
                  clear hK K
                  try simp only [List.getElem_toArray, List.getElem_cons_zero, List.getElem_cons_succ, Act.put, List.setIfInBounds_toArray, List.set_cons_zero, List.set_cons_succ]
                  refine wpAnyH_take (i := 16) (oi := _) (v := ?_) rfl (by kernel_rfl) (by kernel_rfl) (by kernel_rfl) (fun _ _ _ h => h) (Or.inl ⟨by kernel_rfl, ?_⟩) (by assumption) ?_
                  rotate_left 1
                  focus (intro wq hSw; (try dsimp only at hSw); obtain ⟨s0, s1, s2, s3, s4, s5, s6, s7, s8⟩ := hSw; go_simp; (try with_reducible rfl); done)
                  try simp only [List.getElem_toArray, List.getElem_cons_zero, List.getElem_cons_succ, Act.put, List.setIfInBounds_toArray, List.set_cons_zero, List.set_cons_succ]
                  refine wpAnyH_take (i := 17) (oi := _) (v := ?_) rfl (by kernel_rfl) (by kernel_rfl) (by kernel_rfl) (fun _ _ _ h => h) (Or.inl ⟨by kernel_rfl, ?_⟩) (by assumption) ?_
                  rotate_left 1
                  focus (intro wq hSw; (try dsimp only at hSw); obtain ⟨s0, s1, s2, s3, s4, s5, s6, s7, s8⟩ := hSw; go_simp; (try with_reducible rfl); done)
                  try simp only [List.getElem_toArray, List.getElem_cons_zero, List.getElem_cons_succ, Act.put, List.setIfInBounds_toArray, List.set_cons_zero, List.set_cons_succ]
                  refine wpAnyH_done (by kernel_rfl) ?_ _
                  go_wp2
                  go_returns
                  exact ⟨rfl, hHeld.2.2.2.2.2.2.2.2.out.a.bw⟩
end Go.Proofs.Ytkhnoikdfelheaa
