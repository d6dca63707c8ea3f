/- CanonKeeps: the walk. -/
import Derived.Test.YtkhnoikdfelheaaM19
import Derived.Test.YtkhnoikdfelheaaL3
namespace Go.Proofs.Ytkhnoikdfelheaa
set_option linter.unusedVariables false
set_option linter.unusedSimpArgs false
open Go.ChangeShapes Go.WideShapes Go.ChangeAt Go.RowKit
/-- Two forms, boxed. -/
structure Pair (w W : World) (b1 b2 : Nat) (Fa Fb : Fv) : Prop where
  a : Fbox Fa w W b1
  b : Fbox Fb w W b2
theorem Pair.keep {w W W' : World} {b1 b2 : Nat} {Fa Fb : Fv} (h : Pair w W b1 b2 Fa Fb) (k : Below W.heap.size W W') : Pair w W' b1 b2 Fa Fb := ⟨h.a.keep k, h.b.keep k⟩
theorem sameF_of {F G K : Fv} (h : IsCan F G) (k : IsCan F K) : SameF G K := isCan_unique h k
/-- What Get tells depends on the set alone. -/
theorem get_fix (F : Fv) (x : Int) : ∃ (k : Int) (L : List Sp), ∀ H : Fv, H.Ok → gr H x = gr F x → ∀ W, H.At W → Calls Try.prog 16 #[H.v, .int .i64 x] W fun e w' => ∃ (ao : Option Addr) (n c : Nat), e = .returned (.tuple #[.slice ao n c, .int .i64 k]) ∧ Hid (Below W.heap.size W w') ∧ Hid (SpAt w' ao n c L) := by
  classical
  by_cases q : Told x (gr F x)
  · refine ⟨0, gr F x, fun H ok e W h => (get_any2 H x W h ok _ rfl).mono ?_⟩
    rintro e' w' ⟨ao, n, c, L, k, rfl, h1, h2, (⟨rfl, y⟩ | ⟨rfl, _, y⟩)⟩
    · refine ⟨ao, n, c, rfl, h1, ?_⟩
      rw [y.out.2, e] at h2
      exact h2
    · rw [e] at y; exact absurd q y.out
  · refine ⟨20, [], fun H ok e W h => (get_any2 H x W h ok _ rfl).mono ?_⟩
    rintro e' w' ⟨ao, n, c, L, k, rfl, h1, h2, (⟨rfl, y⟩ | ⟨rfl, rfl, y⟩)⟩
    · rw [e] at y; exact absurd y.out.1 q
    · have : L = [] := List.eq_nil_of_length_eq_zero h2.out.len
      subst this
      exact ⟨ao, 0, c, rfl, h1, h2⟩
set_option maxRecDepth 8000 in
set_option maxHeartbeats 4000000 in
theorem canonKeeps_walk (F : Fv) (i : Int) (w : World) (hF : F.At w) (hi1 : -9223372036854775808 ≤ i) (hi2 : i ≤ 9223372036854775807) :
    Calls Try.prog 5 #[F.v, .int .i64 i] w fun e w' => e = .returned (.bool true) ∧ Below w.heap.size w w' := by
  have HAW := Lib.hid (fun W => awake_any W)
  obtain ⟨P1, N1, co1, cn1, cc1, oo1, on1, oc1, cs1, os1⟩ := F
  obtain ⟨b, hb⟩ : ∃ b, w.heap.size = b := ⟨_, rfl⟩
  obtain ⟨wb, hwb⟩ : ∃ wb, w.alloc (.cells #[.int .i64 P1, .int .i64 N1, .slice co1 cn1 cc1, .slice oo1 on1 oc1] 25) = wb := ⟨_, rfl⟩
  have KW : Below w.heap.size w wb := by rw [← hwb]; exact (Below.refl _ w).alloc (Nat.le_refl _) _
  have B1 : wb.heap[b]? = some (.cells #[.int .i64 P1, .int .i64 N1, .slice co1 cn1 cc1, .slice oo1 on1 oc1] 25) := by rw [← hwb, ← hb, new_al]
  have HX : Hid (Fbox ⟨P1, N1, co1, cn1, cc1, oo1, on1, oc1, cs1, os1⟩ w wb b) := Lib.hid (fbox_at (hF.keep KW) B1 KW)
  have LC1 : Hid (cs1.length = cn1) := Lib.hid hF.core.len
  have LO1 : Hid (os1.length = on1) := Lib.hid hF.odd.len
  have HP1 : -9223372036854775808 ≤ P1 := hF.p1
  have HP2 : P1 ≤ 9223372036854775807 := hF.p2
  have hmo1 : on1 ≤ 9223372036854775807 := Nat.le_trans hF.odd.le hF.odd.top
  clear hF KW B1
  obtain ⟨rF, hrF⟩ : ∃ r : Bool, r = true ↔ Fv.Small ⟨P1, N1, co1, cn1, cc1, oo1, on1, oc1, cs1, os1⟩ ∧ Fv.Rt ⟨P1, N1, co1, cn1, cc1, oo1, on1, oc1, cs1, os1⟩ := by classical exact ⟨decide _, decide_eq_true_iff⟩
  have HRF := Lib.hid hrF
  have C1 : Hid (∀ W, Fv.At ⟨P1, N1, co1, cn1, cc1, oo1, on1, oc1, cs1, os1⟩ W → Calls Try.prog 8 #[.agg #[.int .i64 P1, .int .i64 N1, .slice co1 cn1 cc1, .slice oo1 on1 oc1]] W fun e w' => e = .returned (.bool rF) ∧ Below W.heap.size W w') := Lib.hid (fun W h => right_any2 ⟨P1, N1, co1, cn1, cc1, oo1, on1, oc1, cs1, os1⟩ W h rF hrF)
  clear hrF
  show Calls Try.prog 5 #[.agg #[.int .i64 P1, .int .i64 N1, .slice co1 cn1 cc1, .slice oo1 on1 oc1], .int .i64 i] w _
  go_enter Try.func5, Try.ntmps5
  go_upto_region 1 with fail
  clear hwb hb
  have a0 : wb.cell? ⟨b, 0, none⟩ = some (.int .i64 P1) := (HX.out).c0
  have a1 : wb.cell? ⟨b, 1, none⟩ = some (.int .i64 N1) := (HX.out).c1
  have a2 : wb.cell? ⟨b, 2, none⟩ = some (.slice co1 cn1 cc1) := (HX.out).c2
  have a3 : wb.cell? ⟨b, 3, none⟩ = some (.slice oo1 on1 oc1) := (HX.out).c3
  go_wp2_with fail
  (with_reducible refine (C1.out _ HX.out.at_).mono ?_)
  rintro e v0 ⟨rfl, q⟩
  have HX := Lib.hid (HX.out.keep q)
  clear a0 a1 a2 a3 q C1
  cases rF
  · skip
    go_wp2_with fail
    (with_reducible refine (HAW.out _).mono ?_)
    rintro e wz ⟨rfl, qz⟩
    have HZ := Lib.hid (HX.out.bw.trans (qz.mono HX.out.bw.size))
    clear qz
    go_wp2
    go_returns
    exact ⟨rfl, HZ.out⟩
  · have HSR1 := Lib.hid (HRF.out.1 (by first | rfl | trivial))
    clear HRF
    have D1 : Hid (∀ W, Fv.At ⟨P1, N1, co1, cn1, cc1, oo1, on1, oc1, cs1, os1⟩ W → Calls Try.prog 11 #[.agg #[.int .i64 P1, .int .i64 N1, .slice co1 cn1 cc1, .slice oo1 on1 oc1]] W fun e w' => ∃ p n c l k o m j g s, e = .returned (.agg #[.int .i64 p, .int .i64 n, .slice c l k, .slice o m j]) ∧ Hid (IsCan ⟨P1, N1, co1, cn1, cc1, oo1, on1, oc1, cs1, os1⟩ ⟨p, n, c, l, k, o, m, j, g, s⟩ ∧ Fv.At ⟨p, n, c, l, k, o, m, j, g, s⟩ w') ∧ Below W.heap.size W w') := Lib.hid (fun W h => (form_ok ⟨P1, N1, co1, cn1, cc1, oo1, on1, oc1, cs1, os1⟩ HSR1.out.1.mid HSR1.out.2 W h).mono (by rintro e w' ⟨⟨p, n, c, l, k, o, m, j, g, s⟩, rfl, hc, ho, q⟩; exact ⟨p, n, c, l, k, o, m, j, g, s, rfl, Lib.hid ⟨hc, ho.at_⟩, q⟩))
    have a0 : v0.cell? ⟨b, 0, none⟩ = some (.int .i64 P1) := (HX.out).c0
    have a1 : v0.cell? ⟨b, 1, none⟩ = some (.int .i64 N1) := (HX.out).c1
    have a2 : v0.cell? ⟨b, 2, none⟩ = some (.slice co1 cn1 cc1) := (HX.out).c2
    have a3 : v0.cell? ⟨b, 3, none⟩ = some (.slice oo1 on1 oc1) := (HX.out).c3
    go_wp2_with fail
    (with_reducible refine (D1.out _ HX.out.at_).mono ?_)
    rintro e v1 ⟨P2, N2, co2, cn2, cc2, oo2, on2, oc2, cs2, os2, rfl, HC, q⟩
    have HX := Lib.hid (HX.out.keep q)
    clear a0 a1 a2 a3 q D1
    obtain ⟨b2, hb2⟩ : ∃ b2, v1.heap.size = b2 := ⟨_, rfl⟩
    obtain ⟨v2, hv2⟩ : ∃ v2, v1.alloc (.cells #[.int .i64 P2, .int .i64 N2, .slice co2 cn2 cc2, .slice oo2 on2 oc2] 25) = v2 := ⟨_, rfl⟩
    have KV : Below v1.heap.size v1 v2 := by rw [← hv2]; exact (Below.refl _ v1).alloc (Nat.le_refl _) _
    have B2 : v2.heap[b2]? = some (.cells #[.int .i64 P2, .int .i64 N2, .slice co2 cn2 cc2, .slice oo2 on2 oc2] 25) := by rw [← hv2, ← hb2, new_al]
    have HX1 := HX.out.keep KV
    have HX2 : Hid (Pair w v2 b b2 ⟨P1, N1, co1, cn1, cc1, oo1, on1, oc1, cs1, os1⟩ ⟨P2, N2, co2, cn2, cc2, oo2, on2, oc2, cs2, os2⟩) := Lib.hid ⟨HX1, fbox_at (HC.out.2.keep KV) B2 HX1.bw⟩
    have LO2 : Hid (os2.length = on2) := Lib.hid HC.out.2.odd.len
    have LC2 : Hid (cs2.length = cn2) := Lib.hid HC.out.2.core.len
    have HP3 : -9223372036854775808 ≤ P2 := HC.out.2.p1
    have HP4 : P2 ≤ 9223372036854775807 := HC.out.2.p2
    have hmo2 : on2 ≤ 9223372036854775807 := Nat.le_trans HC.out.2.odd.le HC.out.2.odd.top
    have HC := Lib.hid HC.out.1
    have HLE : Hid (Less ⟨P1, N1, co1, cn1, cc1, oo1, on1, oc1, cs1, os1⟩ ⟨P2, N2, co2, cn2, cc2, oo2, on2, oc2, cs2, os2⟩) := Lib.hid (can_less HC.out HSR1.out.2 LC1.out LO1.out LO2.out)
    have HR2 : Hid (Fv.Rt ⟨P2, N2, co2, cn2, cc2, oo2, on2, oc2, cs2, os2⟩) := Lib.hid (can_rt HC.out HSR1.out.2 LC1.out)
    have HS2 : Hid (Fv.Small ⟨P2, N2, co2, cn2, cc2, oo2, on2, oc2, cs2, os2⟩) := Lib.hid (HLE.out.small HSR1.out.1)
    have HCC : Hid (IsCan ⟨P2, N2, co2, cn2, cc2, oo2, on2, oc2, cs2, os2⟩ ⟨P2, N2, co2, cn2, cc2, oo2, on2, oc2, cs2, os2⟩) := Lib.hid (can_can HC.out (meas_full HSR1.out.2.meas LC1.out))
    have HGR : Hid (∀ x, gr ⟨P2, N2, co2, cn2, cc2, oo2, on2, oc2, cs2, os2⟩ x = gr ⟨P1, N1, co1, cn1, cc1, oo1, on1, oc1, cs1, os1⟩ x) := Lib.hid (fun x => can_gr HC.out (meas_full HSR1.out.2.meas LC1.out) HSR1.out.2.odd.inc x)
    have t38 : decide (N1 < N2) = false := decide_eq_false (fun z => absurd HLE.out.n (Int.not_le.2 z))
    have t45 : decide (P1 < P2) = false := decide_eq_false (fun z => absurd HLE.out.p (Int.not_le.2 z))
    have t54 : decide (on1 < on2) = false := decide_eq_false (fun z => absurd (show on2 ≤ on1 from HLE.out.on) (by omega))
    obtain ⟨y1, hz1⟩ : ∃ z : Nat, Fv.size ⟨P1, N1, co1, cn1, cc1, oo1, on1, oc1, cs1, os1⟩ = z := ⟨_, rfl⟩
    obtain ⟨y2, hz2⟩ : ∃ z : Nat, Fv.size ⟨P2, N2, co2, cn2, cc2, oo2, on2, oc2, cs2, os2⟩ = z := ⟨_, rfl⟩
    have t61 : decide (y1 < y2) = false := decide_eq_false (fun z => by have := HLE.out.sz; rw [hz1, hz2] at this; omega)
    have Z1 : Hid (∀ W, Fv.At ⟨P1, N1, co1, cn1, cc1, oo1, on1, oc1, cs1, os1⟩ W → Calls Try.prog 20 #[.agg #[.int .i64 P1, .int .i64 N1, .slice co1 cn1 cc1, .slice oo1 on1 oc1]] W fun e w' => e = .returned (.int .i64 y1) ∧ Below W.heap.size W w') := Lib.hid (fun W h => hz1 ▸ size_any ⟨P1, N1, co1, cn1, cc1, oo1, on1, oc1, cs1, os1⟩ W h (Nat.le_trans HSR1.out.1.1 (by decide)) (Nat.le_trans HSR1.out.1.2.1 (by decide)))
    have Z2 : Hid (∀ W, Fv.At ⟨P2, N2, co2, cn2, cc2, oo2, on2, oc2, cs2, os2⟩ W → Calls Try.prog 20 #[.agg #[.int .i64 P2, .int .i64 N2, .slice co2 cn2 cc2, .slice oo2 on2 oc2]] W fun e w' => e = .returned (.int .i64 y2) ∧ Below W.heap.size W w') := Lib.hid (fun W h => hz2 ▸ size_any ⟨P2, N2, co2, cn2, cc2, oo2, on2, oc2, cs2, os2⟩ W h (Nat.le_trans HS2.out.1 (by decide)) (Nat.le_trans HS2.out.2.1 (by decide)))
    have R2 : Hid (∀ W, Fv.At ⟨P2, N2, co2, cn2, cc2, oo2, on2, oc2, cs2, os2⟩ W → Calls Try.prog 19 #[.agg #[.int .i64 P2, .int .i64 N2, .slice co2 cn2 cc2, .slice oo2 on2 oc2]] W fun e w' => e = .returned (.int .i64 0) ∧ Below W.heap.size W w') := Lib.hid (fun W h => right_ok ⟨P2, N2, co2, cn2, cc2, oo2, on2, oc2, cs2, os2⟩ HS2.out.mid HR2.out W h)
    have I2 : Hid (∀ W, Fv.At ⟨P2, N2, co2, cn2, cc2, oo2, on2, oc2, cs2, os2⟩ W → Calls Try.prog 14 #[.agg #[.int .i64 P2, .int .i64 N2, .slice co2 cn2 cc2, .slice oo2 on2 oc2]] W fun e w' => e = .returned (.bool true) ∧ Below W.heap.size W w') := Lib.hid (fun W h => is_ok ⟨P2, N2, co2, cn2, cc2, oo2, on2, oc2, cs2, os2⟩ HS2.out.mid HR2.out W h true ⟨fun _ => ⟨HCC.out.turn, canOs_ne (G := ⟨P2, N2, co2, cn2, cc2, oo2, on2, oc2, cs2, os2⟩) HCC.out⟩, fun _ => rfl⟩)
    have D2 : Hid (∀ W, Fv.At ⟨P2, N2, co2, cn2, cc2, oo2, on2, oc2, cs2, os2⟩ W → Calls Try.prog 11 #[.agg #[.int .i64 P2, .int .i64 N2, .slice co2 cn2 cc2, .slice oo2 on2 oc2]] W fun e w' => ∃ p n c l k o m j g s, e = .returned (.agg #[.int .i64 p, .int .i64 n, .slice c l k, .slice o m j]) ∧ Hid (IsCan ⟨P2, N2, co2, cn2, cc2, oo2, on2, oc2, cs2, os2⟩ ⟨p, n, c, l, k, o, m, j, g, s⟩ ∧ Fv.At ⟨p, n, c, l, k, o, m, j, g, s⟩ w') ∧ Below W.heap.size W w') := Lib.hid (fun W h => (form_ok ⟨P2, N2, co2, cn2, cc2, oo2, on2, oc2, cs2, os2⟩ HS2.out.mid HR2.out W h).mono (by rintro e w' ⟨⟨p, n, c, l, k, o, m, j, g, s⟩, rfl, hc, ho, q⟩; exact ⟨p, n, c, l, k, o, m, j, g, s, rfl, Lib.hid ⟨hc, ho.at_⟩, q⟩))
    have SM : Hid (∀ W, Fv.At ⟨P1, N1, co1, cn1, cc1, oo1, on1, oc1, cs1, os1⟩ W → Fv.At ⟨P2, N2, co2, cn2, cc2, oo2, on2, oc2, cs2, os2⟩ W → Calls Try.prog 18 #[.agg #[.int .i64 P1, .int .i64 N1, .slice co1 cn1 cc1, .slice oo1 on1 oc1], .agg #[.int .i64 P2, .int .i64 N2, .slice co2 cn2 cc2, .slice oo2 on2 oc2]] W fun e w' => e = .returned (.bool true) ∧ Below W.heap.size W w') := Lib.hid (fun W h k => same_ok ⟨P1, N1, co1, cn1, cc1, oo1, on1, oc1, cs1, os1⟩ ⟨P2, N2, co2, cn2, cc2, oo2, on2, oc2, cs2, os2⟩ HSR1.out.1.mid HS2.out.mid HSR1.out.2 HR2.out W h k true ⟨fun _ => canEq_self HC.out HCC.out, fun _ => rfl⟩)
    have GF : Hid (∀ x : Int, ∃ (k : Int) (L : List Sp), (∀ W, Fv.At ⟨P1, N1, co1, cn1, cc1, oo1, on1, oc1, cs1, os1⟩ W → Calls Try.prog 16 #[.agg #[.int .i64 P1, .int .i64 N1, .slice co1 cn1 cc1, .slice oo1 on1 oc1], .int .i64 x] W fun e w' => ∃ (ao : Option Addr) (n c : Nat), e = .returned (.tuple #[.slice ao n c, .int .i64 k]) ∧ Hid (Below W.heap.size W w') ∧ Hid (SpAt w' ao n c L)) ∧ (∀ W, Fv.At ⟨P2, N2, co2, cn2, cc2, oo2, on2, oc2, cs2, os2⟩ W → Calls Try.prog 16 #[.agg #[.int .i64 P2, .int .i64 N2, .slice co2 cn2 cc2, .slice oo2 on2 oc2], .int .i64 x] W fun e w' => ∃ (ao : Option Addr) (n c : Nat), e = .returned (.tuple #[.slice ao n c, .int .i64 k]) ∧ Hid (Below W.heap.size W w') ∧ Hid (SpAt w' ao n c L))) := Lib.hid (fun x => by
      obtain ⟨k, L, h⟩ := get_fix ⟨P1, N1, co1, cn1, cc1, oo1, on1, oc1, cs1, os1⟩ x
      exact ⟨k, L, h ⟨P1, N1, co1, cn1, cc1, oo1, on1, oc1, cs1, os1⟩ (HSR1.out.2.ok HSR1.out.1) rfl, h ⟨P2, N2, co2, cn2, cc2, oo2, on2, oc2, cs2, os2⟩ (HR2.out.ok HS2.out) (HGR.out x)⟩)
    go_upto_region 4 with fail
    clear hv2 hb2 HX KV B2 HX1 hz1 hz2 HLE HR2 HS2 HGR HSR1 LC1 LO1 LC2 LO2 HC
    have HX := HX2
    clear HX2
    have HS : Hid (∀ W, Pair w W b b2 ⟨P1, N1, co1, cn1, cc1, oo1, on1, oc1, cs1, os1⟩ ⟨P2, N2, co2, cn2, cc2, oo2, on2, oc2, cs2, os2⟩ → W.cell? ⟨b, 0, none⟩ = some (.int .i64 P1) ∧ W.cell? ⟨b, 1, none⟩ = some (.int .i64 N1) ∧ W.cell? ⟨b, 2, none⟩ = some (.slice co1 cn1 cc1) ∧ W.cell? ⟨b, 3, none⟩ = some (.slice oo1 on1 oc1) ∧ W.cell? ⟨b2, 0, none⟩ = some (.int .i64 P2) ∧ W.cell? ⟨b2, 1, none⟩ = some (.int .i64 N2) ∧ W.cell? ⟨b2, 2, none⟩ = some (.slice co2 cn2 cc2) ∧ W.cell? ⟨b2, 3, none⟩ = some (.slice oo2 on2 oc2) ∧ Hid (Pair w W b b2 ⟨P1, N1, co1, cn1, cc1, oo1, on1, oc1, cs1, os1⟩ ⟨P2, N2, co2, cn2, cc2, oo2, on2, oc2, cs2, os2⟩)) := Lib.hid (fun W h => ⟨h.a.c0, h.a.c1, h.a.c2, h.a.c3, h.b.c0, h.b.c1, h.b.c2, h.b.c3, Lib.hid h⟩)
    refine wp_region_held_drew (S := (fun W => W.cell? ⟨b, 0, none⟩ = some (.int .i64 P1) ∧ W.cell? ⟨b, 1, none⟩ = some (.int .i64 N1) ∧ W.cell? ⟨b, 2, none⟩ = some (.slice co1 cn1 cc1) ∧ W.cell? ⟨b, 3, none⟩ = some (.slice oo1 on1 oc1) ∧ W.cell? ⟨b2, 0, none⟩ = some (.int .i64 P2) ∧ W.cell? ⟨b2, 1, none⟩ = some (.int .i64 N2) ∧ W.cell? ⟨b2, 2, none⟩ = some (.slice co2 cn2 cc2) ∧ W.cell? ⟨b2, 3, none⟩ = some (.slice oo2 on2 oc2) ∧ Hid (Pair w W b b2 ⟨P1, N1, co1, cn1, cc1, oo1, on1, oc1, cs1, os1⟩ ⟨P2, N2, co2, cn2, cc2, oo2, on2, oc2, cs2, os2⟩))) (by kernel_rfl) ?_ (fun hHeld => ?_)
    · exact HS.out _ (HX.out.keep (Below.refl _ _).drew)
    refine wpAnyH_take (i := 0) (oi := _) (v := ?_) rfl (by kernel_rfl) (by kernel_rfl) (by kernel_rfl) (fun _ _ _ h => h) (Or.inl ⟨by kernel_rfl, ?_⟩) (by assumption) ?_
    rotate_left 1
    focus (intro wq hSw; (try dsimp only at hSw); obtain ⟨s0, s1, s2, s3, s4, s5, s6, s7, s8⟩ := hSw; go_simp; (try with_reducible rfl); done)
    try simp only [List.getElem_toArray, List.getElem_cons_zero, List.getElem_cons_succ, Act.put, List.setIfInBounds_toArray, List.set_cons_zero, List.set_cons_succ]
    refine wpAnyH_ready (rs := [1]) (by kernel_rfl) (by simp) ?_
    refine AllReadyH.cons (o := _) rfl (fun K hK => ?_) AllReadyH.nil
    rw [if_pos (by kernel_rfl)]
    go_simp
    (go_at_call 19; (with_reducible refine (R2.out _ hHeld.2.2.2.2.2.2.2.2.out.b.at_).mono ?_); rintro e z1 ⟨rfl, q⟩)
    first | refine hK.out _ _ ?_ (fun hHeld => ?_) | (go_wp2_with fail; refine hK.out _ _ ?_ (fun hHeld => ?_))
    · exact HS.out _ (hHeld.2.2.2.2.2.2.2.2.out.keep q)
    clear hK K
    try simp only [List.getElem_toArray, List.getElem_cons_zero, List.getElem_cons_succ, Act.put, List.setIfInBounds_toArray, List.set_cons_zero, List.set_cons_succ]
    refine wpAnyH_take (i := 2) (oi := _) (v := ?_) rfl (by kernel_rfl) (by kernel_rfl) (by kernel_rfl) (fun _ _ _ h => h) (Or.inl ⟨by kernel_rfl, ?_⟩) (by assumption) ?_
    rotate_left 1
    focus (intro wq hSw; (try dsimp only at hSw); obtain ⟨s0, s1, s2, s3, s4, s5, s6, s7, s8⟩ := hSw; go_simp; (try with_reducible rfl); done)
    try simp only [List.getElem_toArray, List.getElem_cons_zero, List.getElem_cons_succ, Act.put, List.setIfInBounds_toArray, List.set_cons_zero, List.set_cons_succ]
    refine wpAnyH_take (i := 3) (oi := _) (v := ?_) rfl (by kernel_rfl) (by kernel_rfl) (by kernel_rfl) (fun _ _ _ h => h) (Or.inl ⟨by kernel_rfl, ?_⟩) (by assumption) ?_
    rotate_left 1
    focus (intro wq hSw; (try dsimp only at hSw); obtain ⟨s0, s1, s2, s3, s4, s5, s6, s7, s8⟩ := hSw; go_simp; (try with_reducible rfl); done)
    try simp only [List.getElem_toArray, List.getElem_cons_zero, List.getElem_cons_succ, Act.put, List.setIfInBounds_toArray, List.set_cons_zero, List.set_cons_succ]
    refine wpAnyH_take (i := 4) (oi := _) (v := ?_) rfl (by kernel_rfl) (by kernel_rfl) (by kernel_rfl) (fun _ _ _ h => h) (Or.inl ⟨by kernel_rfl, ?_⟩) (by assumption) ?_
    rotate_left 1
    focus (intro wq hSw; (try dsimp only at hSw); obtain ⟨s0, s1, s2, s3, s4, s5, s6, s7, s8⟩ := hSw; go_simp; (try with_reducible rfl); done)
    try simp only [List.getElem_toArray, List.getElem_cons_zero, List.getElem_cons_succ, Act.put, List.setIfInBounds_toArray, List.set_cons_zero, List.set_cons_succ]
    refine wpAnyH_ready (rs := [5]) (by kernel_rfl) (by simp) ?_
    refine AllReadyH.cons (o := _) rfl (fun K hK => ?_) AllReadyH.nil
    rw [if_pos (by kernel_rfl)]
    go_simp
    (go_at_call 14; (with_reducible refine (I2.out _ hHeld.2.2.2.2.2.2.2.2.out.b.at_).mono ?_); rintro e z2 ⟨rfl, q⟩)
    first | refine hK.out _ _ ?_ (fun hHeld => ?_) | (go_wp2_with fail; refine hK.out _ _ ?_ (fun hHeld => ?_))
    · exact HS.out _ (hHeld.2.2.2.2.2.2.2.2.out.keep q)
    clear hK K
    try simp only [List.getElem_toArray, List.getElem_cons_zero, List.getElem_cons_succ, Act.put, List.setIfInBounds_toArray, List.set_cons_zero, List.set_cons_succ]
    refine wpAnyH_take (i := 6) (oi := _) (v := ?_) rfl (by kernel_rfl) (by kernel_rfl) (by kernel_rfl) (fun _ _ _ h => h) (Or.inl ⟨by kernel_rfl, ?_⟩) (by assumption) ?_
    rotate_left 1
    focus (intro wq hSw; (try dsimp only at hSw); obtain ⟨s0, s1, s2, s3, s4, s5, s6, s7, s8⟩ := hSw; go_simp; (try with_reducible rfl); done)
    try simp only [List.getElem_toArray, List.getElem_cons_zero, List.getElem_cons_succ, Act.put, List.setIfInBounds_toArray, List.set_cons_zero, List.set_cons_succ]
    refine wpAnyH_take (i := 7) (oi := _) (v := ?_) rfl (by kernel_rfl) (by kernel_rfl) (by kernel_rfl) (fun _ _ _ h => h) (Or.inl ⟨by kernel_rfl, ?_⟩) (by assumption) ?_
    rotate_left 1
    focus (intro wq hSw; (try dsimp only at hSw); obtain ⟨s0, s1, s2, s3, s4, s5, s6, s7, s8⟩ := hSw; go_simp; (try with_reducible rfl); done)
    try simp only [List.getElem_toArray, List.getElem_cons_zero, List.getElem_cons_succ, Act.put, List.setIfInBounds_toArray, List.set_cons_zero, List.set_cons_succ]
    refine wpAnyH_take (i := 8) (oi := _) (v := ?_) rfl (by kernel_rfl) (by kernel_rfl) (by kernel_rfl) (fun _ _ _ h => h) (Or.inl ⟨by kernel_rfl, ?_⟩) (by assumption) ?_
    rotate_left 1
    focus (intro wq hSw; (try dsimp only at hSw); obtain ⟨s0, s1, s2, s3, s4, s5, s6, s7, s8⟩ := hSw; go_simp; (try with_reducible rfl); done)
    try simp only [List.getElem_toArray, List.getElem_cons_zero, List.getElem_cons_succ, Act.put, List.setIfInBounds_toArray, List.set_cons_zero, List.set_cons_succ]
    refine wpAnyH_take (i := 9) (oi := _) (v := ?_) rfl (by kernel_rfl) (by kernel_rfl) (by kernel_rfl) (fun _ _ _ h => h) (Or.inl ⟨by kernel_rfl, ?_⟩) (by assumption) ?_
    rotate_left 1
    focus (intro wq hSw; (try dsimp only at hSw); obtain ⟨s0, s1, s2, s3, s4, s5, s6, s7, s8⟩ := hSw; go_simp; (try with_reducible rfl); done)
    try simp only [List.getElem_toArray, List.getElem_cons_zero, List.getElem_cons_succ, Act.put, List.setIfInBounds_toArray, List.set_cons_zero, List.set_cons_succ]
    refine wpAnyH_take (i := 11) (oi := _) (v := ?_) rfl (by kernel_rfl) (by kernel_rfl) (by kernel_rfl) (fun _ _ _ h => h) (Or.inl ⟨by kernel_rfl, ?_⟩) (by assumption) ?_
    rotate_left 1
    focus (intro wq hSw; (try dsimp only at hSw); obtain ⟨s0, s1, s2, s3, s4, s5, s6, s7, s8⟩ := hSw; go_simp; (try with_reducible rfl); done)
    try simp only [List.getElem_toArray, List.getElem_cons_zero, List.getElem_cons_succ, Act.put, List.setIfInBounds_toArray, List.set_cons_zero, List.set_cons_succ]
    refine wpAnyH_ready (rs := [10]) (by kernel_rfl) (by simp) ?_
    refine AllReadyH.cons (o := _) rfl (fun K hK => ?_) AllReadyH.nil
    rw [if_pos (by kernel_rfl)]
    go_simp
    (go_at_call 11; (with_reducible refine (D2.out _ hHeld.2.2.2.2.2.2.2.2.out.b.at_).mono ?_); rintro e z3 ⟨p3, n3, c3, l3, k3, o3, m3, j3, g3, s3, rfl, HA, q⟩)
    first | refine hK.out _ _ ?_ (fun hHeld => ?_) | (go_wp2_with fail; refine hK.out _ _ ?_ (fun hHeld => ?_))
    · exact HS.out _ (hHeld.2.2.2.2.2.2.2.2.out.keep q)
    clear hK K
    try simp only [List.getElem_toArray, List.getElem_cons_zero, List.getElem_cons_succ, Act.put, List.setIfInBounds_toArray, List.set_cons_zero, List.set_cons_succ]
    refine wpAnyH_ready (rs := [12]) (by kernel_rfl) (by simp) ?_
    refine AllReadyH.cons (o := _) rfl (fun K hK => ?_) AllReadyH.nil
    rw [if_pos (by kernel_rfl)]
    go_simp
    (go_at_call 13; (with_reducible refine (alikeForms_any ⟨p3, n3, c3, l3, k3, o3, m3, j3, g3, s3⟩ ⟨P2, N2, co2, cn2, cc2, oo2, on2, oc2, cs2, os2⟩ _ HA.out.2 hHeld.2.2.2.2.2.2.2.2.out.b.at_ true ⟨fun _ => sameF_of HA.out.1 HCC.out, fun _ => rfl⟩).mono ?_); rintro e z4 ⟨rfl, q⟩; clear HA)
    first | refine hK.out _ _ ?_ (fun hHeld => ?_) | (go_wp2_with fail; refine hK.out _ _ ?_ (fun hHeld => ?_))
    · exact HS.out _ (hHeld.2.2.2.2.2.2.2.2.out.keep q)
    clear hK K
    try simp only [List.getElem_toArray, List.getElem_cons_zero, List.getElem_cons_succ, Act.put, List.setIfInBounds_toArray, List.set_cons_zero, List.set_cons_succ]
    refine wpAnyH_take (i := 13) (oi := _) (v := ?_) rfl (by kernel_rfl) (by kernel_rfl) (by kernel_rfl) (fun _ _ _ h => h) (Or.inl ⟨by kernel_rfl, ?_⟩) (by assumption) ?_
    rotate_left 1
    focus (intro wq hSw; (try dsimp only at hSw); obtain ⟨s0, s1, s2, s3, s4, s5, s6, s7, s8⟩ := hSw; go_simp; (try with_reducible rfl); done)
    try simp only [List.getElem_toArray, List.getElem_cons_zero, List.getElem_cons_succ, Act.put, List.setIfInBounds_toArray, List.set_cons_zero, List.set_cons_succ]
    refine wpAnyH_take (i := 14) (oi := _) (v := ?_) rfl (by kernel_rfl) (by kernel_rfl) (by kernel_rfl) (fun _ _ _ h => h) (Or.inl ⟨by kernel_rfl, ?_⟩) (by assumption) ?_
    rotate_left 1
    focus (intro wq hSw; (try dsimp only at hSw); obtain ⟨s0, s1, s2, s3, s4, s5, s6, s7, s8⟩ := hSw; go_simp; (try with_reducible rfl); done)
    try simp only [List.getElem_toArray, List.getElem_cons_zero, List.getElem_cons_succ, Act.put, List.setIfInBounds_toArray, List.set_cons_zero, List.set_cons_succ]
    refine wpAnyH_take (i := 15) (oi := _) (v := ?_) rfl (by kernel_rfl) (by kernel_rfl) (by kernel_rfl) (fun _ _ _ h => h) (Or.inl ⟨by kernel_rfl, ?_⟩) (by assumption) ?_
    rotate_left 1
    focus (intro wq hSw; (try dsimp only at hSw); obtain ⟨s0, s1, s2, s3, s4, s5, s6, s7, s8⟩ := hSw; go_simp; (try with_reducible rfl); done)
    try simp only [List.getElem_toArray, List.getElem_cons_zero, List.getElem_cons_succ, Act.put, List.setIfInBounds_toArray, List.set_cons_zero, List.set_cons_succ]
    refine wpAnyH_take (i := 16) (oi := _) (v := ?_) rfl (by kernel_rfl) (by kernel_rfl) (by kernel_rfl) (fun _ _ _ h => h) (Or.inl ⟨by kernel_rfl, ?_⟩) (by assumption) ?_
    rotate_left 1
    focus (intro wq hSw; (try dsimp only at hSw); obtain ⟨s0, s1, s2, s3, s4, s5, s6, s7, s8⟩ := hSw; go_simp; (try with_reducible rfl); done)
    try simp only [List.getElem_toArray, List.getElem_cons_zero, List.getElem_cons_succ, Act.put, List.setIfInBounds_toArray, List.set_cons_zero, List.set_cons_succ]
    refine wpAnyH_take (i := 17) (oi := _) (v := ?_) rfl (by kernel_rfl) (by kernel_rfl) (by kernel_rfl) (fun _ _ _ h => h) (Or.inl ⟨by kernel_rfl, ?_⟩) (by assumption) ?_
    rotate_left 1
    focus (intro wq hSw; (try dsimp only at hSw); obtain ⟨s0, s1, s2, s3, s4, s5, s6, s7, s8⟩ := hSw; go_simp; (try with_reducible rfl); done)
    try simp only [List.getElem_toArray, List.getElem_cons_zero, List.getElem_cons_succ, Act.put, List.setIfInBounds_toArray, List.set_cons_zero, List.set_cons_succ]
    refine wpAnyH_take (i := 18) (oi := _) (v := ?_) rfl (by kernel_rfl) (by kernel_rfl) (by kernel_rfl) (fun _ _ _ h => h) (Or.inl ⟨by kernel_rfl, ?_⟩) (by assumption) ?_
    rotate_left 1
    focus (intro wq hSw; (try dsimp only at hSw); obtain ⟨s0, s1, s2, s3, s4, s5, s6, s7, s8⟩ := hSw; go_simp; (try with_reducible rfl); done)
    try simp only [List.getElem_toArray, List.getElem_cons_zero, List.getElem_cons_succ, Act.put, List.setIfInBounds_toArray, List.set_cons_zero, List.set_cons_succ]
    refine wpAnyH_take (i := 19) (oi := _) (v := ?_) rfl (by kernel_rfl) (by kernel_rfl) (by kernel_rfl) (fun _ _ _ h => h) (Or.inl ⟨by kernel_rfl, ?_⟩) (by assumption) ?_
    rotate_left 1
    focus (intro wq hSw; (try dsimp only at hSw); obtain ⟨s0, s1, s2, s3, s4, s5, s6, s7, s8⟩ := hSw; go_simp; (try with_reducible rfl); done)
    try simp only [List.getElem_toArray, List.getElem_cons_zero, List.getElem_cons_succ, Act.put, List.setIfInBounds_toArray, List.set_cons_zero, List.set_cons_succ]
    refine wpAnyH_take (i := 20) (oi := _) (v := ?_) rfl (by kernel_rfl) (by kernel_rfl) (by kernel_rfl) (fun _ _ _ h => h) (Or.inl ⟨by kernel_rfl, ?_⟩) (by assumption) ?_
    rotate_left 1
    focus (intro wq hSw; (try dsimp only at hSw); obtain ⟨s0, s1, s2, s3, s4, s5, s6, s7, s8⟩ := hSw; go_simp; (try simp only [t38]); (try with_reducible rfl); done)
    try simp only [List.getElem_toArray, List.getElem_cons_zero, List.getElem_cons_succ, Act.put, List.setIfInBounds_toArray, List.set_cons_zero, List.set_cons_succ]
    refine wpAnyH_take (i := 21) (oi := _) (v := ?_) rfl (by kernel_rfl) (by kernel_rfl) (by kernel_rfl) (fun _ _ _ h => h) (Or.inl ⟨by kernel_rfl, ?_⟩) (by assumption) ?_
    rotate_left 1
    focus (intro wq hSw; (try dsimp only at hSw); obtain ⟨s0, s1, s2, s3, s4, s5, s6, s7, s8⟩ := hSw; go_simp; (try with_reducible rfl); done)
    try simp only [List.getElem_toArray, List.getElem_cons_zero, List.getElem_cons_succ, Act.put, List.setIfInBounds_toArray, List.set_cons_zero, List.set_cons_succ]
    refine wpAnyH_take (i := 22) (oi := _) (v := ?_) rfl (by kernel_rfl) (by kernel_rfl) (by kernel_rfl) (fun _ _ _ h => h) (Or.inl ⟨by kernel_rfl, ?_⟩) (by assumption) ?_
    rotate_left 1
    focus (intro wq hSw; (try dsimp only at hSw); obtain ⟨s0, s1, s2, s3, s4, s5, s6, s7, s8⟩ := hSw; go_simp; (try with_reducible rfl); done)
    try simp only [List.getElem_toArray, List.getElem_cons_zero, List.getElem_cons_succ, Act.put, List.setIfInBounds_toArray, List.set_cons_zero, List.set_cons_succ]
    refine wpAnyH_take (i := 23) (oi := _) (v := ?_) rfl (by kernel_rfl) (by kernel_rfl) (by kernel_rfl) (fun _ _ _ h => h) (Or.inl ⟨by kernel_rfl, ?_⟩) (by assumption) ?_
    rotate_left 1
    focus (intro wq hSw; (try dsimp only at hSw); obtain ⟨s0, s1, s2, s3, s4, s5, s6, s7, s8⟩ := hSw; go_simp; (try with_reducible rfl); done)
    try simp only [List.getElem_toArray, List.getElem_cons_zero, List.getElem_cons_succ, Act.put, List.setIfInBounds_toArray, List.set_cons_zero, List.set_cons_succ]
    refine wpAnyH_take (i := 24) (oi := _) (v := ?_) rfl (by kernel_rfl) (by kernel_rfl) (by kernel_rfl) (fun _ _ _ h => h) (Or.inl ⟨by kernel_rfl, ?_⟩) (by assumption) ?_
    rotate_left 1
    focus (intro wq hSw; (try dsimp only at hSw); obtain ⟨s0, s1, s2, s3, s4, s5, s6, s7, s8⟩ := hSw; go_simp; (try with_reducible rfl); done)
    try simp only [List.getElem_toArray, List.getElem_cons_zero, List.getElem_cons_succ, Act.put, List.setIfInBounds_toArray, List.set_cons_zero, List.set_cons_succ]
    refine wpAnyH_take (i := 25) (oi := _) (v := ?_) rfl (by kernel_rfl) (by kernel_rfl) (by kernel_rfl) (fun _ _ _ h => h) (Or.inl ⟨by kernel_rfl, ?_⟩) (by assumption) ?_
    rotate_left 1
    focus (intro wq hSw; (try dsimp only at hSw); obtain ⟨s0, s1, s2, s3, s4, s5, s6, s7, s8⟩ := hSw; go_simp; (try with_reducible rfl); done)
    try simp only [List.getElem_toArray, List.getElem_cons_zero, List.getElem_cons_succ, Act.put, List.setIfInBounds_toArray, List.set_cons_zero, List.set_cons_succ]
    refine wpAnyH_take (i := 26) (oi := _) (v := ?_) rfl (by kernel_rfl) (by kernel_rfl) (by kernel_rfl) (fun _ _ _ h => h) (Or.inl ⟨by kernel_rfl, ?_⟩) (by assumption) ?_
    rotate_left 1
    focus (intro wq hSw; (try dsimp only at hSw); obtain ⟨s0, s1, s2, s3, s4, s5, s6, s7, s8⟩ := hSw; go_simp; (try with_reducible rfl); done)
    try simp only [List.getElem_toArray, List.getElem_cons_zero, List.getElem_cons_succ, Act.put, List.setIfInBounds_toArray, List.set_cons_zero, List.set_cons_succ]
    refine wpAnyH_take (i := 27) (oi := _) (v := ?_) rfl (by kernel_rfl) (by kernel_rfl) (by kernel_rfl) (fun _ _ _ h => h) (Or.inl ⟨by kernel_rfl, ?_⟩) (by assumption) ?_
    rotate_left 1
    focus (intro wq hSw; (try dsimp only at hSw); obtain ⟨s0, s1, s2, s3, s4, s5, s6, s7, s8⟩ := hSw; go_simp; (try simp only [t45]); (try with_reducible rfl); done)
    try simp only [List.getElem_toArray, List.getElem_cons_zero, List.getElem_cons_succ, Act.put, List.setIfInBounds_toArray, List.set_cons_zero, List.set_cons_succ]
    refine wpAnyH_take (i := 28) (oi := _) (v := ?_) rfl (by kernel_rfl) (by kernel_rfl) (by kernel_rfl) (fun _ _ _ h => h) (Or.inl ⟨by kernel_rfl, ?_⟩) (by assumption) ?_
    rotate_left 1
    focus (intro wq hSw; (try dsimp only at hSw); obtain ⟨s0, s1, s2, s3, s4, s5, s6, s7, s8⟩ := hSw; go_simp; (try with_reducible rfl); done)
    try simp only [List.getElem_toArray, List.getElem_cons_zero, List.getElem_cons_succ, Act.put, List.setIfInBounds_toArray, List.set_cons_zero, List.set_cons_succ]
    refine wpAnyH_take (i := 29) (oi := _) (v := ?_) rfl (by kernel_rfl) (by kernel_rfl) (by kernel_rfl) (fun _ _ _ h => h) (Or.inl ⟨by kernel_rfl, ?_⟩) (by assumption) ?_
    rotate_left 1
    focus (intro wq hSw; (try dsimp only at hSw); obtain ⟨s0, s1, s2, s3, s4, s5, s6, s7, s8⟩ := hSw; go_simp; (try with_reducible rfl); done)
    try simp only [List.getElem_toArray, List.getElem_cons_zero, List.getElem_cons_succ, Act.put, List.setIfInBounds_toArray, List.set_cons_zero, List.set_cons_succ]
    refine wpAnyH_take (i := 30) (oi := _) (v := ?_) rfl (by kernel_rfl) (by kernel_rfl) (by kernel_rfl) (fun _ _ _ h => h) (Or.inl ⟨by kernel_rfl, ?_⟩) (by assumption) ?_
    rotate_left 1
    focus (intro wq hSw; (try dsimp only at hSw); obtain ⟨s0, s1, s2, s3, s4, s5, s6, s7, s8⟩ := hSw; go_simp; (try with_reducible rfl); done)
    try simp only [List.getElem_toArray, List.getElem_cons_zero, List.getElem_cons_succ, Act.put, List.setIfInBounds_toArray, List.set_cons_zero, List.set_cons_succ]
    refine wpAnyH_take (i := 31) (oi := _) (v := ?_) rfl (by kernel_rfl) (by kernel_rfl) (by kernel_rfl) (fun _ _ _ h => h) (Or.inl ⟨by kernel_rfl, ?_⟩) (by assumption) ?_
    rotate_left 1
    focus (intro wq hSw; (try dsimp only at hSw); obtain ⟨s0, s1, s2, s3, s4, s5, s6, s7, s8⟩ := hSw; go_simp; (try with_reducible rfl); done)
    try simp only [List.getElem_toArray, List.getElem_cons_zero, List.getElem_cons_succ, Act.put, List.setIfInBounds_toArray, List.set_cons_zero, List.set_cons_succ]
    refine wpAnyH_take (i := 32) (oi := _) (v := ?_) rfl (by kernel_rfl) (by kernel_rfl) (by kernel_rfl) (fun _ _ _ h => h) (Or.inl ⟨by kernel_rfl, ?_⟩) (by assumption) ?_
    rotate_left 1
    focus (intro wq hSw; (try dsimp only at hSw); obtain ⟨s0, s1, s2, s3, s4, s5, s6, s7, s8⟩ := hSw; go_simp; (try with_reducible rfl); done)
    try simp only [List.getElem_toArray, List.getElem_cons_zero, List.getElem_cons_succ, Act.put, List.setIfInBounds_toArray, List.set_cons_zero, List.set_cons_succ]
    refine wpAnyH_take (i := 33) (oi := _) (v := ?_) rfl (by kernel_rfl) (by kernel_rfl) (by kernel_rfl) (fun _ _ _ h => h) (Or.inl ⟨by kernel_rfl, ?_⟩) (by assumption) ?_
    rotate_left 1
    focus (intro wq hSw; (try dsimp only at hSw); obtain ⟨s0, s1, s2, s3, s4, s5, s6, s7, s8⟩ := hSw; go_simp; (try with_reducible rfl); done)
    try simp only [List.getElem_toArray, List.getElem_cons_zero, List.getElem_cons_succ, Act.put, List.setIfInBounds_toArray, List.set_cons_zero, List.set_cons_succ]
    refine wpAnyH_take (i := 34) (oi := _) (v := ?_) rfl (by kernel_rfl) (by kernel_rfl) (by kernel_rfl) (fun _ _ _ h => h) (Or.inl ⟨by kernel_rfl, ?_⟩) (by assumption) ?_
    rotate_left 1
    focus (intro wq hSw; (try dsimp only at hSw); obtain ⟨s0, s1, s2, s3, s4, s5, s6, s7, s8⟩ := hSw; go_simp; (try with_reducible rfl); done)
    try simp only [List.getElem_toArray, List.getElem_cons_zero, List.getElem_cons_succ, Act.put, List.setIfInBounds_toArray, List.set_cons_zero, List.set_cons_succ]
    refine wpAnyH_take (i := 35) (oi := _) (v := ?_) rfl (by kernel_rfl) (by kernel_rfl) (by kernel_rfl) (fun _ _ _ h => h) (Or.inl ⟨by kernel_rfl, ?_⟩) (by assumption) ?_
    rotate_left 1
    focus (intro wq hSw; (try dsimp only at hSw); obtain ⟨s0, s1, s2, s3, s4, s5, s6, s7, s8⟩ := hSw; go_simp; (try with_reducible rfl); done)
    try simp only [List.getElem_toArray, List.getElem_cons_zero, List.getElem_cons_succ, Act.put, List.setIfInBounds_toArray, List.set_cons_zero, List.set_cons_succ]
    refine wpAnyH_take (i := 36) (oi := _) (v := ?_) rfl (by kernel_rfl) (by kernel_rfl) (by kernel_rfl) (fun _ _ _ h => h) (Or.inl ⟨by kernel_rfl, ?_⟩) (by assumption) ?_
    rotate_left 1
    focus (intro wq hSw; (try dsimp only at hSw); obtain ⟨s0, s1, s2, s3, s4, s5, s6, s7, s8⟩ := hSw; go_simp; (try simp only [t54]); (try with_reducible rfl); done)
    try simp only [List.getElem_toArray, List.getElem_cons_zero, List.getElem_cons_succ, Act.put, List.setIfInBounds_toArray, List.set_cons_zero, List.set_cons_succ]
    refine wpAnyH_take (i := 37) (oi := _) (v := ?_) rfl (by kernel_rfl) (by kernel_rfl) (by kernel_rfl) (fun _ _ _ h => h) (Or.inl ⟨by kernel_rfl, ?_⟩) (by assumption) ?_
    rotate_left 1
    focus (intro wq hSw; (try dsimp only at hSw); obtain ⟨s0, s1, s2, s3, s4, s5, s6, s7, s8⟩ := hSw; go_simp; (try with_reducible rfl); done)
    try simp only [List.getElem_toArray, List.getElem_cons_zero, List.getElem_cons_succ, Act.put, List.setIfInBounds_toArray, List.set_cons_zero, List.set_cons_succ]
    refine wpAnyH_take (i := 38) (oi := _) (v := ?_) rfl (by kernel_rfl) (by kernel_rfl) (by kernel_rfl) (fun _ _ _ h => h) (Or.inl ⟨by kernel_rfl, ?_⟩) (by assumption) ?_
    rotate_left 1
    focus (intro wq hSw; (try dsimp only at hSw); obtain ⟨s0, s1, s2, s3, s4, s5, s6, s7, s8⟩ := hSw; go_simp; (try with_reducible rfl); done)
    try simp only [List.getElem_toArray, List.getElem_cons_zero, List.getElem_cons_succ, Act.put, List.setIfInBounds_toArray, List.set_cons_zero, List.set_cons_succ]
    refine wpAnyH_take (i := 39) (oi := _) (v := ?_) rfl (by kernel_rfl) (by kernel_rfl) (by kernel_rfl) (fun _ _ _ h => h) (Or.inl ⟨by kernel_rfl, ?_⟩) (by assumption) ?_
    rotate_left 1
    focus (intro wq hSw; (try dsimp only at hSw); obtain ⟨s0, s1, s2, s3, s4, s5, s6, s7, s8⟩ := hSw; go_simp; (try with_reducible rfl); done)
    try simp only [List.getElem_toArray, List.getElem_cons_zero, List.getElem_cons_succ, Act.put, List.setIfInBounds_toArray, List.set_cons_zero, List.set_cons_succ]
    refine wpAnyH_take (i := 41) (oi := _) (v := ?_) rfl (by kernel_rfl) (by kernel_rfl) (by kernel_rfl) (fun _ _ _ h => h) (Or.inl ⟨by kernel_rfl, ?_⟩) (by assumption) ?_
    rotate_left 1
    focus (intro wq hSw; (try dsimp only at hSw); obtain ⟨s0, s1, s2, s3, s4, s5, s6, s7, s8⟩ := hSw; go_simp; (try with_reducible rfl); done)
    try simp only [List.getElem_toArray, List.getElem_cons_zero, List.getElem_cons_succ, Act.put, List.setIfInBounds_toArray, List.set_cons_zero, List.set_cons_succ]
    refine wpAnyH_ready (rs := [40]) (by kernel_rfl) (by simp) ?_
    refine AllReadyH.cons (o := _) rfl (fun K hK => ?_) AllReadyH.nil
    rw [if_pos (by kernel_rfl)]
    go_simp
    (go_at_call 20; (with_reducible refine (Z2.out _ hHeld.2.2.2.2.2.2.2.2.out.b.at_).mono ?_); rintro e z5 ⟨rfl, q⟩)
    first | refine hK.out _ _ ?_ (fun hHeld => ?_) | (go_wp2_with fail; refine hK.out _ _ ?_ (fun hHeld => ?_))
    · exact HS.out _ (hHeld.2.2.2.2.2.2.2.2.out.keep q)
    clear hK K
    try simp only [List.getElem_toArray, List.getElem_cons_zero, List.getElem_cons_succ, Act.put, List.setIfInBounds_toArray, List.set_cons_zero, List.set_cons_succ]
    refine wpAnyH_ready (rs := [42]) (by kernel_rfl) (by simp) ?_
    refine AllReadyH.cons (o := _) rfl (fun K hK => ?_) AllReadyH.nil
    rw [if_pos (by kernel_rfl)]
    go_simp
    (go_at_call 20; (with_reducible refine (Z1.out _ hHeld.2.2.2.2.2.2.2.2.out.a.at_).mono ?_); rintro e z6 ⟨rfl, q⟩)
    first | refine hK.out _ _ ?_ (fun hHeld => ?_) | (go_wp2_with fail; refine hK.out _ _ ?_ (fun hHeld => ?_))
    · exact HS.out _ (hHeld.2.2.2.2.2.2.2.2.out.keep q)
    clear hK K
    try simp only [List.getElem_toArray, List.getElem_cons_zero, List.getElem_cons_succ, Act.put, List.setIfInBounds_toArray, List.set_cons_zero, List.set_cons_succ]
    refine wpAnyH_take (i := 43) (oi := _) (v := ?_) rfl (by kernel_rfl) (by kernel_rfl) (by kernel_rfl) (fun _ _ _ h => h) (Or.inl ⟨by kernel_rfl, ?_⟩) (by assumption) ?_
    rotate_left 1
    focus (intro wq hSw; (try dsimp only at hSw); obtain ⟨s0, s1, s2, s3, s4, s5, s6, s7, s8⟩ := hSw; go_simp; (try simp only [t61]); (try with_reducible rfl); done)
    try simp only [List.getElem_toArray, List.getElem_cons_zero, List.getElem_cons_succ, Act.put, List.setIfInBounds_toArray, List.set_cons_zero, List.set_cons_succ]
    refine wpAnyH_take (i := 44) (oi := _) (v := ?_) rfl (by kernel_rfl) (by kernel_rfl) (by kernel_rfl) (fun _ _ _ h => h) (Or.inl ⟨by kernel_rfl, ?_⟩) (by assumption) ?_
    rotate_left 1
    focus (intro wq hSw; (try dsimp only at hSw); obtain ⟨s0, s1, s2, s3, s4, s5, s6, s7, s8⟩ := hSw; go_simp; (try with_reducible rfl); done)
    try simp only [List.getElem_toArray, List.getElem_cons_zero, List.getElem_cons_succ, Act.put, List.setIfInBounds_toArray, List.set_cons_zero, List.set_cons_succ]
    refine wpAnyH_done (by kernel_rfl) ?_ _
    have HX := Lib.hid hHeld.2.2.2.2.2.2.2.2.out
    clear hHeld HS t38 t45 t54 t61 Z1 Z2 R2 I2 D2 HCC HC
    obtain ⟨h, hh⟩ : ∃ h, z6.heap.size = h := ⟨_, rfl⟩
    obtain ⟨wv, hwv⟩ : ∃ wv, z6.alloc (.cells #[.int .i64 i, .int .i64 0, .int .i64 1, .int .i64 (-1), .int .i64 (wrap64 (i.tmod 50 - 25))] 3) = wv := ⟨_, rfl⟩
    have KV : Below z6.heap.size z6 wv := by rw [← hwv]; exact (Below.refl _ z6).alloc (Nat.le_refl _) _
    have HX2 := Lib.hid (HX.out.keep KV)
    have BV : wv.heap[h]? = some (.cells #[.int .i64 i, .int .i64 0, .int .i64 1, .int .i64 (-1), .int .i64 (wrap64 (i.tmod 50 - 25))] 3) := by rw [← hwv, ← hh, new_al]
    have HB : Hid (∀ m, m < 5 → ∃ x : Int, wv.cell? ⟨h, m, none⟩ = some (.int .i64 x)) := Lib.hid (fun m hm => by
      rcases (by omega : m = 0 ∨ m = 1 ∨ m = 2 ∨ m = 3 ∨ m = 4) with rfl | rfl | rfl | rfl | rfl
      · exact ⟨_, cell_block BV 0⟩
      · exact ⟨_, cell_block BV 1⟩
      · exact ⟨_, cell_block BV 2⟩
      · exact ⟨_, cell_block BV 3⟩
      · exact ⟨_, cell_block BV 4⟩)
    go_wp2_with fail
    clear hwv hh KV BV HX
    go_loopw [69] (fun ii wr => ∃ j : Nat, j ≤ 5 ∧ ii = .int .i64 (j : Int) ∧ Hid (Pair w wr b b2 ⟨P1, N1, co1, cn1, cc1, oo1, on1, oc1, cs1, os1⟩ ⟨P2, N2, co2, cn2, cc2, oo2, on2, oc2, cs2, os2⟩) ∧ Hid (∀ m, m < 5 → ∃ x : Int, wr.cell? ⟨h, m, none⟩ = some (.int .i64 x))) (fun ii _ => (5 - intOf ii).toNat)
    case atStart => exact ⟨0, by omega, rfl, HX2, HB⟩
    case round =>
      clear HX2 HB
      obtain ⟨j, hj, rfl, HX, HB⟩ := hrel
      by_cases jl : j < 5
      · obtain ⟨x, hx⟩ := HB.out j jl
        obtain ⟨k, L, g1, g2⟩ := GF.out x
        have G1 := Lib.hid g1
        have G2 := Lib.hid g2
        clear g1 g2
        have i0 : (0 : Int) ≤ (j : Int) := by omega
        have i1 : (j : Int) < 5 := by omega
        have a0 : wr.cell? ⟨b, 0, none⟩ = some (.int .i64 P1) := (HX.out).a.c0
        have a1 : wr.cell? ⟨b, 1, none⟩ = some (.int .i64 N1) := (HX.out).a.c1
        have a2 : wr.cell? ⟨b, 2, none⟩ = some (.slice co1 cn1 cc1) := (HX.out).a.c2
        have a3 : wr.cell? ⟨b, 3, none⟩ = some (.slice oo1 on1 oc1) := (HX.out).a.c3
        have a4 : wr.cell? ⟨b2, 0, none⟩ = some (.int .i64 P2) := (HX.out).b.c0
        have a5 : wr.cell? ⟨b2, 1, none⟩ = some (.int .i64 N2) := (HX.out).b.c1
        have a6 : wr.cell? ⟨b2, 2, none⟩ = some (.slice co2 cn2 cc2) := (HX.out).b.c2
        have a7 : wr.cell? ⟨b2, 3, none⟩ = some (.slice oo2 on2 oc2) := (HX.out).b.c3
        go_wp2_with fail
        (with_reducible refine (G1.out _ HX.out.a.at_).mono ?_)
        rintro e u1 ⟨sa, sn, sc, rfl, q, y1⟩
        have HX := Lib.hid (HX.out.keep q.out)
        have HB := Lib.hid (fun m (hm : m < 5) => let ⟨x, hx⟩ := HB.out m hm; (⟨x, cell_keep hx q.out⟩ : ∃ x : Int, u1.cell? ⟨h, m, none⟩ = some (Value.int IntKind.i64 x)))
        clear a0 a1 a2 a3 a4 a5 a6 a7 q G1 hx
        have a0 : u1.cell? ⟨b, 0, none⟩ = some (.int .i64 P1) := (HX.out).a.c0
        have a1 : u1.cell? ⟨b, 1, none⟩ = some (.int .i64 N1) := (HX.out).a.c1
        have a2 : u1.cell? ⟨b, 2, none⟩ = some (.slice co1 cn1 cc1) := (HX.out).a.c2
        have a3 : u1.cell? ⟨b, 3, none⟩ = some (.slice oo1 on1 oc1) := (HX.out).a.c3
        have a4 : u1.cell? ⟨b2, 0, none⟩ = some (.int .i64 P2) := (HX.out).b.c0
        have a5 : u1.cell? ⟨b2, 1, none⟩ = some (.int .i64 N2) := (HX.out).b.c1
        have a6 : u1.cell? ⟨b2, 2, none⟩ = some (.slice co2 cn2 cc2) := (HX.out).b.c2
        have a7 : u1.cell? ⟨b2, 3, none⟩ = some (.slice oo2 on2 oc2) := (HX.out).b.c3
        go_wp2_with fail
        (with_reducible refine (G2.out _ HX.out.b.at_).mono ?_)
        rintro e u2 ⟨ta, tn, tc, rfl, q, y2⟩
        have HX := Lib.hid (HX.out.keep q.out)
        have HB := Lib.hid (fun m (hm : m < 5) => let ⟨x, hx⟩ := HB.out m hm; (⟨x, cell_keep hx q.out⟩ : ∃ x : Int, u2.cell? ⟨h, m, none⟩ = some (Value.int IntKind.i64 x)))
        have HSA := Lib.hid (same_any sa ta sn sc tn tc L L u2 (y1.out.keep q.out) y2.out true ⟨fun _ => rfl, fun _ => rfl⟩)
        clear a0 a1 a2 a3 a4 a5 a6 a7 q G2 y1 y2
        have tk : (k != k) = false := by simp
        go_wp2_with fail
        (with_reducible refine HSA.out.mono ?_)
        rintro e u3 ⟨rfl, q⟩
        have HX := Lib.hid (HX.out.keep q)
        have HB := Lib.hid (fun m (hm : m < 5) => let ⟨x, hx⟩ := HB.out m hm; (⟨x, cell_keep hx q⟩ : ∃ x : Int, u3.cell? ⟨h, m, none⟩ = some (Value.int IntKind.i64 x)))
        clear q HSA tk
        go_wp2
        go_roundw
        case rel => exact ⟨j + 1, by omega, by go_num, HX, HB⟩
        case measure => simp [intOf]; omega
      · obtain rfl : j = 5 := by omega
        have a0 : wr.cell? ⟨b, 0, none⟩ = some (.int .i64 P1) := (HX.out).a.c0
        have a1 : wr.cell? ⟨b, 1, none⟩ = some (.int .i64 N1) := (HX.out).a.c1
        have a2 : wr.cell? ⟨b, 2, none⟩ = some (.slice co1 cn1 cc1) := (HX.out).a.c2
        have a3 : wr.cell? ⟨b, 3, none⟩ = some (.slice oo1 on1 oc1) := (HX.out).a.c3
        have a4 : wr.cell? ⟨b2, 0, none⟩ = some (.int .i64 P2) := (HX.out).b.c0
        have a5 : wr.cell? ⟨b2, 1, none⟩ = some (.int .i64 N2) := (HX.out).b.c1
        have a6 : wr.cell? ⟨b2, 2, none⟩ = some (.slice co2 cn2 cc2) := (HX.out).b.c2
        have a7 : wr.cell? ⟨b2, 3, none⟩ = some (.slice oo2 on2 oc2) := (HX.out).b.c3
        go_wp2_with fail
        (with_reducible refine (SM.out _ HX.out.a.at_ HX.out.b.at_).mono ?_)
        rintro e u1 ⟨rfl, q⟩
        have HX := Lib.hid (HX.out.keep q)
        clear a0 a1 a2 a3 a4 a5 a6 a7 q
        go_wp2_with fail
        (with_reducible refine (HAW.out _).mono ?_)
        rintro e wz ⟨rfl, qz⟩
        have HZ := Lib.hid (HX.out.a.bw.trans (qz.mono HX.out.a.bw.size))
        clear qz
        go_wp2
        go_returns
        exact ⟨rfl, HZ.out⟩

end Go.Proofs.Ytkhnoikdfelheaa
