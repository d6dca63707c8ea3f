/- CanonTurns: the walk. -/
import Derived.Test.YtkhnoikdfelheaaY4
namespace Go.Proofs.Ytkhnoikdfelheaa
set_option linter.unusedVariables false
set_option linter.unusedSimpArgs false
open Go.ChangeShapes Go.WideShapes Go.ChangeAt Go.RowKit
theorem get_of (F : Fv) (x : Int) (W : World) (h : F.At W) (ok : F.Ok) : Calls Try.prog 16 #[F.v, .int .i64 x] W fun e w' => ∃ (ao : Option Addr) (n c : Nat) (L : List Sp) (k : Int), e = .returned (.tuple #[.slice ao n c, .int .i64 k]) ∧ Hid (Below W.heap.size W w') ∧ Hid (∀ (g : Nat) (W2 : World), g < W.heap.size → Below w'.heap.size w' W2 → Sp5 W2 g ao n c L) ∧ Hid (L = [] ∨ L = gr F x) ∧ ((k = 0 ∧ Hid (L = gr F x)) ∨ k = 20) := by
  refine (get_any F x W h ok).mono ?_
  rintro e w' ⟨v, k, rfl, q, hv⟩
  rcases hv.out with ⟨h1, rfl, h3⟩ | ⟨h1, rfl, rfl⟩
  · obtain ⟨ao, c, rfl, z⟩ := own_sp rfl h3
    refine ⟨ao, _, c, gr F x, 0, rfl, Lib.hid q, Lib.hid (fun g W2 hg hB => ?_), Lib.hid (.inr rfl), .inl ⟨rfl, Lib.hid rfl⟩⟩
    obtain ⟨ao', c', e, z⟩ := sp5_own (keepB h3 hB) rfl hg
    cases e
    exact z
  · exact ⟨none, 0, 0, [], 20, rfl, Lib.hid q, Lib.hid (fun g W2 hg hB W _ => SpAt.nil _), Lib.hid (.inl rfl), .inr rfl⟩
set_option maxRecDepth 8000 in
set_option maxHeartbeats 8000000 in
theorem canonTurns_walk (F : Fv) (x y : Int) (w : World) (hF : F.At w) (hx1 : 0 ≤ x) (hx2 : x ≤ 255) (hy1 : -128 ≤ y) (hy2 : y ≤ 127) :
    Calls Try.prog 6 #[F.v, .int .u8 x, .int .i8 y] w fun e w' => e = .returned (.bool true) ∧ Below w.heap.size w w' := by
  have HAW := Lib.hid (fun W => awake_any W)
  obtain ⟨P1, N1, co1, cn1, cc1, oo1, on1, oc1, cs1, os1⟩ := F
  obtain ⟨b, hb⟩ : ∃ b, w.heap.size = b := ⟨_, rfl⟩
  obtain ⟨wb, hwb⟩ : ∃ wb, w.alloc (.cells #[.int .i64 P1, .int .i64 N1, .slice co1 cn1 cc1, .slice oo1 on1 oc1] 25) = wb := ⟨_, rfl⟩
  have KW : Below w.heap.size w wb := by rw [← hwb]; exact (Below.refl _ w).alloc (Nat.le_refl _) _
  have B1 : wb.heap[b]? = some (.cells #[.int .i64 P1, .int .i64 N1, .slice co1 cn1 cc1, .slice oo1 on1 oc1] 25) := by rw [← hwb, ← hb, new_al]
  have HX : Hid (Fbox ⟨P1, N1, co1, cn1, cc1, oo1, on1, oc1, cs1, os1⟩ w wb b) := Lib.hid (fbox_at (hF.keep KW) B1 KW)
  have LC1 : Hid (cs1.length = cn1) := Lib.hid hF.core.len
  have LO1 : Hid (os1.length = on1) := Lib.hid hF.odd.len
  have HP1 : -9223372036854775808 ≤ P1 := hF.p1
  have HP2 : P1 ≤ 9223372036854775807 := hF.p2
  have HF := Lib.hid hF
  have HBE := Lib.hid hb
  have HBB : Hid (wb.heap[b]? = some (.cells #[.int .i64 P1, .int .i64 N1, .slice co1 cn1 cc1, .slice oo1 on1 oc1] 25)) := Lib.hid B1
  clear hF KW B1
  obtain ⟨rF, hrF⟩ : ∃ r : Bool, r = true ↔ Fv.Small ⟨P1, N1, co1, cn1, cc1, oo1, on1, oc1, cs1, os1⟩ ∧ Fv.Rt ⟨P1, N1, co1, cn1, cc1, oo1, on1, oc1, cs1, os1⟩ := by classical exact ⟨decide _, decide_eq_true_iff⟩
  have HRF := Lib.hid hrF
  have C1 : Hid (∀ W, Fv.At ⟨P1, N1, co1, cn1, cc1, oo1, on1, oc1, cs1, os1⟩ W → Calls Try.prog 8 #[.agg #[.int .i64 P1, .int .i64 N1, .slice co1 cn1 cc1, .slice oo1 on1 oc1]] W fun e w' => e = .returned (.bool rF) ∧ Below W.heap.size W w') := Lib.hid (fun W h => right_any2 ⟨P1, N1, co1, cn1, cc1, oo1, on1, oc1, cs1, os1⟩ W h rF hrF)
  clear hrF
  obtain ⟨t, ht⟩ : ∃ t : Nat, 1 + x % 6 = (t : Int) := ⟨(1 + x % 6).toNat, by omega⟩
  have HTT : Hid (1 ≤ t ∧ t ≤ 6) := Lib.hid (by omega)
  have HTE := Lib.hid ht
  clear ht
  show Calls Try.prog 6 #[.agg #[.int .i64 P1, .int .i64 N1, .slice co1 cn1 cc1, .slice oo1 on1 oc1], .int .u8 x, .int .i8 y] w _
  go_enter Try.func6, Try.ntmps6
  go_upto_region 1 with fail
  clear hwb hb
  have a0 : wb.cell? ⟨b, 0, none⟩ = some (.int .i64 P1) := (HX.out).c0
  have a1 : wb.cell? ⟨b, 1, none⟩ = some (.int .i64 N1) := (HX.out).c1
  have a2 : wb.cell? ⟨b, 2, none⟩ = some (.slice co1 cn1 cc1) := (HX.out).c2
  have a3 : wb.cell? ⟨b, 3, none⟩ = some (.slice oo1 on1 oc1) := (HX.out).c3
  by_cases p1 : 1073741824 < P1
  · have tp1 : decide (1073741824 < P1) = true := by simp; exact p1
    go_wp2_with fail
    (with_reducible refine (C1.out _ HX.out.at_).mono ?_)
    rintro e v0 ⟨rfl, q⟩
    have HX := Lib.hid (HX.out.keep q)
    clear a0 a1 a2 a3 q C1
    have a0 : v0.cell? ⟨b, 0, none⟩ = some (.int .i64 P1) := (HX.out).c0
    have a1 : v0.cell? ⟨b, 1, none⟩ = some (.int .i64 N1) := (HX.out).c1
    have a2 : v0.cell? ⟨b, 2, none⟩ = some (.slice co1 cn1 cc1) := (HX.out).c2
    have a3 : v0.cell? ⟨b, 3, none⟩ = some (.slice oo1 on1 oc1) := (HX.out).c3
    cases rF
    · skip
      go_wp2_with fail
      (with_reducible refine (HAW.out _).mono ?_)
      rintro e wz ⟨rfl, qz⟩
      have HZ := Lib.hid (HX.out.bw.trans (qz.mono HX.out.bw.size))
      clear qz
      go_wp2
      go_returns
      exact ⟨rfl, HZ.out⟩
    · skip
      go_wp2_with fail
      (with_reducible refine (HAW.out _).mono ?_)
      rintro e wz ⟨rfl, qz⟩
      have HZ := Lib.hid (HX.out.bw.trans (qz.mono HX.out.bw.size))
      clear qz
      go_wp2
      go_returns
      exact ⟨rfl, HZ.out⟩
  · have tp1 : decide (1073741824 < P1) = false := by simp; omega
    go_wp2_with fail
    (with_reducible refine (C1.out _ HX.out.at_).mono ?_)
    rintro e v0 ⟨rfl, q⟩
    have HX := Lib.hid (HX.out.keep q)
    have HBB := Lib.hid ((q.block b (Array.getElem?_eq_some_iff.1 HBB.out).1).trans HBB.out)
    clear a0 a1 a2 a3 q C1
    have a0 : v0.cell? ⟨b, 0, none⟩ = some (.int .i64 P1) := (HX.out).c0
    have a1 : v0.cell? ⟨b, 1, none⟩ = some (.int .i64 N1) := (HX.out).c1
    have a2 : v0.cell? ⟨b, 2, none⟩ = some (.slice co1 cn1 cc1) := (HX.out).c2
    have a3 : v0.cell? ⟨b, 3, none⟩ = some (.slice oo1 on1 oc1) := (HX.out).c3
    cases rF
    · skip
      go_wp2_with fail
      (with_reducible refine (HAW.out _).mono ?_)
      rintro e wz ⟨rfl, qz⟩
      have HZ := Lib.hid (HX.out.bw.trans (qz.mono HX.out.bw.size))
      clear qz
      go_wp2
      go_returns
      exact ⟨rfl, HZ.out⟩
    · have HSR1 := Lib.hid (HRF.out.1 (by first | rfl | trivial))
      clear HRF
      have TW : Hid (∀ W, Fv.At ⟨P1, N1, co1, cn1, cc1, oo1, on1, oc1, cs1, os1⟩ W → Calls Try.prog 21 #[.agg #[.int .i64 P1, .int .i64 N1, .slice co1 cn1 cc1, .slice oo1 on1 oc1], .int .i64 (1 + x % 6)] W fun e w' => ∃ (P2 N2 : Int) (c2 : Option Addr) (l2 k2 : Nat) (o2 : Option Addr) (m2 j2 : Nat) (g2 : List (List Sp)) (s2 : List Gr) (ok : Bool), e = .returned (.tuple #[.agg #[.int .i64 P2, .int .i64 N2, .slice c2 l2 k2, .slice o2 m2 j2], .bool ok]) ∧ Hid (Fv.At ⟨P2, N2, c2, l2, k2, o2, m2, j2, g2, s2⟩ w') ∧ Hid (ok = true → P2 = P1 * t ∧ N2 = N1 * t ∧ g2 = seqC cs1 P1 N1 (cs1.length * t) ∧ s2 = os1) ∧ Hid (Below W.heap.size W w')) := Lib.hid (fun W h => by rw [HTE.out]; exact twice_any ⟨P1, N1, co1, cn1, cc1, oo1, on1, oc1, cs1, os1⟩ t W h HSR1.out.1 HSR1.out.2 (by show P1 ≤ _; omega) HTT.out.1 HTT.out.2)
      have GT : Hid (∀ W, Fv.At ⟨P1, N1, co1, cn1, cc1, oo1, on1, oc1, cs1, os1⟩ W → Calls Try.prog 16 #[.agg #[.int .i64 P1, .int .i64 N1, .slice co1 cn1 cc1, .slice oo1 on1 oc1], .int .i64 y] W fun e w' => ∃ (ao : Option Addr) (n c : Nat) (L : List Sp) (k : Int), e = .returned (.tuple #[.slice ao n c, .int .i64 k]) ∧ Hid (Below W.heap.size W w') ∧ Hid (∀ (g : Nat) (W2 : World), g < W.heap.size → Below w'.heap.size w' W2 → Sp5 W2 g ao n c L) ∧ Hid (L = [] ∨ L = gr ⟨P1, N1, co1, cn1, cc1, oo1, on1, oc1, cs1, os1⟩ y) ∧ ((k = 0 ∧ Hid (L = gr ⟨P1, N1, co1, cn1, cc1, oo1, on1, oc1, cs1, os1⟩ y)) ∨ k = 20)) := Lib.hid (fun W h => get_of ⟨P1, N1, co1, cn1, cc1, oo1, on1, oc1, cs1, os1⟩ y W h (HSR1.out.2.ok HSR1.out.1))
      go_wp2_with fail
      (with_reducible refine (TW.out _ HX.out.at_).mono ?_)
      rintro e v1 ⟨P2, N2, co2, cn2, cc2, oo2, on2, oc2, cs2, os2, ok, rfl, HG, HE, q⟩
      have HX := Lib.hid (HX.out.keep q.out)
      have HK1 := Lib.hid HX.out.bw
      have HBB := Lib.hid ((q.out.block b (Array.getElem?_eq_some_iff.1 HBB.out).1).trans HBB.out)
      clear a0 a1 a2 a3 q TW
      obtain ⟨b2, hb2⟩ : ∃ b2, v1.heap.size = b2 := ⟨_, rfl⟩
      obtain ⟨v2, hv2⟩ : ∃ v2, v1.alloc (.cells #[.int .i64 P2, .int .i64 N2, .slice co2 cn2 cc2, .slice oo2 on2 oc2] 25) = v2 := ⟨_, rfl⟩
      have KV : Below v1.heap.size v1 v2 := by rw [← hv2]; exact (Below.refl _ v1).alloc (Nat.le_refl _) _
      have B2 : v2.heap[b2]? = some (.cells #[.int .i64 P2, .int .i64 N2, .slice co2 cn2 cc2, .slice oo2 on2 oc2] 25) := by rw [← hv2, ← hb2, new_al]
      have HX1 := HX.out.keep KV
      have HX2 : Hid (Duo w v2 b b2 ⟨P1, N1, co1, cn1, cc1, oo1, on1, oc1, cs1, os1⟩ ⟨P2, N2, co2, cn2, cc2, oo2, on2, oc2, cs2, os2⟩) := Lib.hid ⟨HX1, fbox_at (HG.out.keep KV) B2 HX1.bw⟩
      have HB2 := Lib.hid B2
      have HK2 := Lib.hid KV
      have HLB := Lib.hid hb2
      have HP3 : -9223372036854775808 ≤ P2 := HG.out.p1
      have HP4 : P2 ≤ 9223372036854775807 := HG.out.p2
      have LC2 : Hid (cs2.length = cn2) := Lib.hid HG.out.core.len
      have LO2 : Hid (os2.length = on2) := Lib.hid HG.out.odd.len
      have hmo2 : on2 ≤ 9223372036854775807 := Nat.le_trans HG.out.odd.le HG.out.odd.top
      go_upto_region 4 with fail
      clear hv2 hb2 HX KV B2 HX1
      have HX := HX2
      clear HX2
      cases ok
      · skip
        go_wp2_with fail
        (with_reducible refine (HAW.out _).mono ?_)
        rintro e wz ⟨rfl, qz⟩
        have HZ := Lib.hid (HX.out.a.bw.trans (qz.mono HX.out.a.bw.size))
        clear qz
        go_wp2
        go_returns
        exact ⟨rfl, HZ.out⟩
      · have HEE := Lib.hid (HE.out (by first | rfl | trivial))
        clear HE
        have HMID : Hid (Fv.Mid ⟨P2, N2, co2, cn2, cc2, oo2, on2, oc2, cs2, os2⟩) := Lib.hid (by
          have s := small_short HSR1.out.1
          obtain ⟨_, _, e3, e4⟩ := HEE.out
          have hs1 := HSR1.out.1.1
          have hs2 := HSR1.out.1.2.1
          have l1 := LC1.out
          have l2 := LO1.out
          refine mid_of ?_ ?_ LC2.out LO2.out ?_ ?_
          · show cs2.length ≤ 100
            rw [e3, seqC_len]
            have : cs1.length * t ≤ 12 * 6 := Nat.mul_le_mul (by rw [l1]; exact hs1) HTT.out.2
            omega
          · show os2.length ≤ 100
            rw [e4, l2]; exact Nat.le_trans hs2 (by decide)
          · show ∀ l ∈ cs2, l.length ≤ 60
            rw [e3]; exact seqC_short s.1
          · show ∀ o ∈ os2, o.2.length ≤ 60
            rw [e4]; exact s.2)
        by_cases rG : ¬ Fv.Rt ⟨P2, N2, co2, cn2, cc2, oo2, on2, oc2, cs2, os2⟩
        · have R2 : Hid (∀ W, Fv.At ⟨P2, N2, co2, cn2, cc2, oo2, on2, oc2, cs2, os2⟩ W → Calls Try.prog 19 #[.agg #[.int .i64 P2, .int .i64 N2, .slice co2 cn2 cc2, .slice oo2 on2 oc2]] W fun e w' => e = .returned (.int .i64 50) ∧ Below W.heap.size W w') := Lib.hid (fun W h => right_no50 ⟨P2, N2, co2, cn2, cc2, oo2, on2, oc2, cs2, os2⟩ HMID.out rG W h)
          have a0 : v2.cell? ⟨b, 0, none⟩ = some (.int .i64 P1) := (HX.out).a.c0
          have a1 : v2.cell? ⟨b, 1, none⟩ = some (.int .i64 N1) := (HX.out).a.c1
          have a2 : v2.cell? ⟨b, 2, none⟩ = some (.slice co1 cn1 cc1) := (HX.out).a.c2
          have a3 : v2.cell? ⟨b, 3, none⟩ = some (.slice oo1 on1 oc1) := (HX.out).a.c3
          have a4 : v2.cell? ⟨b2, 0, none⟩ = some (.int .i64 P2) := (HX.out).b.c0
          have a5 : v2.cell? ⟨b2, 1, none⟩ = some (.int .i64 N2) := (HX.out).b.c1
          have a6 : v2.cell? ⟨b2, 2, none⟩ = some (.slice co2 cn2 cc2) := (HX.out).b.c2
          have a7 : v2.cell? ⟨b2, 3, none⟩ = some (.slice oo2 on2 oc2) := (HX.out).b.c3
          go_wp2_with fail
          (with_reducible refine (R2.out _ HX.out.b.at_).mono ?_)
          rintro e v3 ⟨rfl, q⟩
          have HX := Lib.hid (HX.out.keep q)
          clear a0 a1 a2 a3 a4 a5 a6 a7 q R2
          go_wp2_with fail
          (with_reducible refine (HAW.out _).mono ?_)
          rintro e wz ⟨rfl, qz⟩
          have HZ := Lib.hid (HX.out.a.bw.trans (qz.mono HX.out.a.bw.size))
          clear qz
          go_wp2
          go_returns
          exact ⟨rfl, HZ.out⟩
        · have rG := Classical.not_not.1 rG
          have R2 : Hid (∀ W, Fv.At ⟨P2, N2, co2, cn2, cc2, oo2, on2, oc2, cs2, os2⟩ W → Calls Try.prog 19 #[.agg #[.int .i64 P2, .int .i64 N2, .slice co2 cn2 cc2, .slice oo2 on2 oc2]] W fun e w' => e = .returned (.int .i64 0) ∧ Below W.heap.size W w') := Lib.hid (fun W h => right_ok ⟨P2, N2, co2, cn2, cc2, oo2, on2, oc2, cs2, os2⟩ HMID.out rG W h)
          have a0 : v2.cell? ⟨b, 0, none⟩ = some (.int .i64 P1) := (HX.out).a.c0
          have a1 : v2.cell? ⟨b, 1, none⟩ = some (.int .i64 N1) := (HX.out).a.c1
          have a2 : v2.cell? ⟨b, 2, none⟩ = some (.slice co1 cn1 cc1) := (HX.out).a.c2
          have a3 : v2.cell? ⟨b, 3, none⟩ = some (.slice oo1 on1 oc1) := (HX.out).a.c3
          have a4 : v2.cell? ⟨b2, 0, none⟩ = some (.int .i64 P2) := (HX.out).b.c0
          have a5 : v2.cell? ⟨b2, 1, none⟩ = some (.int .i64 N2) := (HX.out).b.c1
          have a6 : v2.cell? ⟨b2, 2, none⟩ = some (.slice co2 cn2 cc2) := (HX.out).b.c2
          have a7 : v2.cell? ⟨b2, 3, none⟩ = some (.slice oo2 on2 oc2) := (HX.out).b.c3
          go_wp2_with fail
          (with_reducible refine (R2.out _ HX.out.b.at_).mono ?_)
          rintro e v3 ⟨rfl, q⟩
          have HX := Lib.hid (HX.out.keep q)
          have HK3 := Lib.hid q
          clear a0 a1 a2 a3 a4 a5 a6 a7 q R2
          have a0 : v3.cell? ⟨b, 0, none⟩ = some (.int .i64 P1) := (HX.out).a.c0
          have a1 : v3.cell? ⟨b, 1, none⟩ = some (.int .i64 N1) := (HX.out).a.c1
          have a2 : v3.cell? ⟨b, 2, none⟩ = some (.slice co1 cn1 cc1) := (HX.out).a.c2
          have a3 : v3.cell? ⟨b, 3, none⟩ = some (.slice oo1 on1 oc1) := (HX.out).a.c3
          have a4 : v3.cell? ⟨b2, 0, none⟩ = some (.int .i64 P2) := (HX.out).b.c0
          have a5 : v3.cell? ⟨b2, 1, none⟩ = some (.int .i64 N2) := (HX.out).b.c1
          have a6 : v3.cell? ⟨b2, 2, none⟩ = some (.slice co2 cn2 cc2) := (HX.out).b.c2
          have a7 : v3.cell? ⟨b2, 3, none⟩ = some (.slice oo2 on2 oc2) := (HX.out).b.c3
          go_wp2_with fail
          (with_reducible refine (GT.out _ HX.out.a.at_).mono ?_)
          rintro e v4 ⟨ao, an, ac, L, k, rfl, q, HSP, HLL, dk⟩
          have HX := Lib.hid (HX.out.keep q.out)
          have HK4 := Lib.hid (HK3.out.trans (q.out.mono HK3.out.size))
          have HS5 : Hid (Sp5 v4 b2 ao an ac L) := Lib.hid (HSP.out b2 v4 (by
            have := (Array.getElem?_eq_some_iff.1 HB2.out).1
            exact Nat.lt_of_lt_of_le this HK3.out.size) (Below.refl _ _))
          clear a0 a1 a2 a3 a4 a5 a6 a7 q GT HSP HK3
          obtain ⟨pb, hpb⟩ : ∃ pb : Bool, (k != 0) = pb := ⟨_, rfl⟩
          have HPB : Hid (pb = false → L = gr ⟨P1, N1, co1, cn1, cc1, oo1, on1, oc1, cs1, os1⟩ y) := Lib.hid (fun z => by
            rcases dk with ⟨_, h⟩ | rfl
            · exact h.out
            · rw [← hpb] at z; cases z)
          clear dk
          have HL6 : Hid (L.length ≤ 60) := Lib.hid (by
            rcases HLL.out with h | h
            · rw [h]; exact Nat.zero_le _
            · rw [h]; exact gr_short HSR1.out.1 y)
          have HSX : Hid (∀ W j (hj : j < os2.length), Below v4.heap.size v4 W → ∃ (q p0 : Nat) (ro : Option Addr) (rn rc : Nat), oo2 = some ⟨q, p0, none⟩ ∧ W.cell? ⟨q, p0 + j * 2, none⟩ = some (.int .i64 os2[j].1) ∧ W.cell? ⟨q, p0 + j * 2 + 1, none⟩ = some (.slice ro rn rc) ∧ Sp5 v4 b2 ro rn rc os2[j].2 ∧ -9223372036854775808 ≤ os2[j].1 ∧ os2[j].1 ≤ 9223372036854775807) := Lib.hid (fun W j hj hB => by
            have k14 : Below v1.heap.size v1 v4 := HK2.out.trans (HK4.out.mono HK2.out.size)
            have k1W := k14.trans (hB.mono k14.size)
            obtain ⟨q, p0, e, hc⟩ := HG.out.odd.here (by show 0 < on2; have := LO2.out; omega)
            obtain ⟨z0, ⟨o, m, dd, z1, y2⟩, x1, x2⟩ := hc j hj
            exact ⟨q, p0, o, m, dd, e, cell_keep z0 k1W, cell_keep z1 k1W, sp5_old y2 k14 (by rw [HLB.out]; exact Nat.le_refl _), x1, x2⟩)
          have HB4 : Hid (b2 < v4.heap.size) := Lib.hid (Nat.lt_of_lt_of_le (Array.getElem?_eq_some_iff.1 HB2.out).1 HK4.out.size)
          have hon2 : on2 ≤ 8 := by
            have a := HSR1.out.1.2.1
            have b1 := LO2.out
            have b2 := LO1.out
            obtain ⟨_, _, _, e4⟩ := HEE.out
            rw [e4] at b1
            have a : on1 ≤ 8 := a
            omega
          have H0 : Hid (∃ T, PutT os2 y L (L = gr ⟨P1, N1, co1, cn1, cc1, oo1, on1, oc1, cs1, os1⟩ y) 0 T ∧ Ex5 v4 b2 v4 (.slice none 0 0) T) := Lib.hid ⟨[], PutT.zero _ _ _ _, Ex5.nil _ _⟩
          have a0 : v4.cell? ⟨b, 0, none⟩ = some (.int .i64 P1) := (HX.out).a.c0
          have a1 : v4.cell? ⟨b, 1, none⟩ = some (.int .i64 N1) := (HX.out).a.c1
          have a2 : v4.cell? ⟨b, 2, none⟩ = some (.slice co1 cn1 cc1) := (HX.out).a.c2
          have a3 : v4.cell? ⟨b, 3, none⟩ = some (.slice oo1 on1 oc1) := (HX.out).a.c3
          have a4 : v4.cell? ⟨b2, 0, none⟩ = some (.int .i64 P2) := (HX.out).b.c0
          have a5 : v4.cell? ⟨b2, 1, none⟩ = some (.int .i64 N2) := (HX.out).b.c1
          have a6 : v4.cell? ⟨b2, 2, none⟩ = some (.slice co2 cn2 cc2) := (HX.out).b.c2
          have a7 : v4.cell? ⟨b2, 3, none⟩ = some (.slice oo2 on2 oc2) := (HX.out).b.c3
          go_wp2_with fail
          clear a0 a1 a2 a3 a4 a5 a6 a7
          clear hpb
          go_loopw [11, 12, 53] (fun vv pp ii wr => ∃ (p : Bool) (j : Nat), j ≤ on2 ∧ pp = .bool p ∧ ii = .int .i64 (j : Int) ∧ Hid (p = false → L = gr ⟨P1, N1, co1, cn1, cc1, oo1, on1, oc1, cs1, os1⟩ y) ∧ Hid (∃ T, PutT os2 y L (L = gr ⟨P1, N1, co1, cn1, cc1, oo1, on1, oc1, cs1, os1⟩ y) j T ∧ Ex5 v4 b2 wr vv T)) (fun _ _ ii _ => on2 - (intOf ii).toNat)
          case atStart => exact ⟨pb, 0, Nat.zero_le _, rfl, rfl, HPB, H0⟩
          case round =>
            clear H0 HPB
            obtain ⟨p, j, hj, rfl, rfl, HPB, HT⟩ := hrel
            obtain ⟨T, hput, hex⟩ := HT.out
            have HPU := Lib.hid hput
            have HE5 := Lib.hid hex
            clear HT hput hex
            have jt0 : (0 : Int) ≤ (j : Int) := by omega
            by_cases jlt : j < on2
            · have jt1 : (j : Int) < (on2 : Int) := by omega
              have hil : j < os2.length := by rw [LO2.out]; exact jlt
              obtain ⟨q, p0, o, m, dd, rfl, z0, z1, y2, x1, x2⟩ := HSX.out wr j hil HE5.out.bw
              have HSY := Lib.hid y2
              have HIL := Lib.hid hil
              have HTL : Hid (T.length ≤ 1000) := Lib.hid (by have := HPU.out.len; omega)
              have HMX : Hid (∃ X M, os2[j]'hil = (X, M)) := Lib.hid ⟨_, _, rfl⟩
              obtain ⟨X, hX⟩ : ∃ X, (os2[j]'hil).1 = X := ⟨_, rfl⟩
              obtain ⟨M, hM⟩ : ∃ M, (os2[j]'hil).2 = M := ⟨_, rfl⟩
              have HJE : Hid (∃ h : j < os2.length, os2[j]'h = (X, M)) := Lib.hid ⟨hil, Prod.ext hX hM⟩
              rw [hX] at z0 x1 x2
              rw [hM] at HSY
              clear y2 hX hM HMX
              obtain ⟨bx, hbx⟩ : ∃ bx, wr.heap.size = bx := ⟨_, rfl⟩
              have KA : Below wr.heap.size wr (wr.alloc (.cells #[.int .i64 X, .slice o m dd] 43)) := (Below.refl _ wr).alloc (Nat.le_refl _) _
              have BX0 : (wr.alloc (.cells #[.int .i64 X, .slice o m dd] 43)).heap[bx]? = some (.cells #[.int .i64 X, .slice o m dd] 43) := by rw [← hbx, new_al]
              have HNE : Hid (∀ q, u11.ownBlock = some q → q ≠ bx) := Lib.hid (fun q e => by have := HE5.out.lt q e; omega)
              have HE6 := Lib.hid (HE5.out.keep KA)
              go_upto_region 12 with fail
              generalize hwx : wr.alloc (.cells #[.int .i64 X, .slice o m dd] 43) = wx
              rw [hwx] at BX0 HE6
              have BXS : Hid (bx < wx.heap.size) := Lib.hid (Array.getElem?_eq_some_iff.1 BX0).1
              clear KA hwx hbx z0 z1 HE5 hil
              have HE5 := HE6
              clear HE6
              have u0 : wx.cell? ⟨bx, 0, none⟩ = some (.int .i64 X) := cell_block BX0 0
              have u1 : wx.cell? ⟨bx, 1, none⟩ = some (.slice o m dd) := cell_block BX0 1
              by_cases xy : X = y
              · have t61 : (X == y) = true := by simp; exact xy
                clear xy
                have HTQ : Hid (T.length ≤ 1000000) := Lib.hid (Nat.le_trans HTL.out (by decide))
                go_wp2_with (at_builtin; go_loud (refine appG rfl _ _ rfl u11 T rfl HE5.out HB4.out X o m dd M HSY.out x1 x2 rfl HTQ.out ?_); intro a8 n8 c8 w8 HE8 HO8)
                have HN := Lib.hid HE8
                clear HE8 HO8
                have HTN : Hid (∃ T9, PutT os2 y L (L = gr ⟨P1, N1, co1, cn1, cc1, oo1, on1, oc1, cs1, os1⟩ y) (j + 1) T9 ∧ Ex5 v4 b2 w8 (.slice a8 n8 c8) T9) := Lib.hid (let ⟨h, e⟩ := HJE.out; ⟨_, HPU.out.step h e, HN.out⟩)
                go_wp2
                go_roundw
                case rel => exact ⟨true, j + 1, by omega, rfl, by go_num, Lib.hid (fun z => by cases z), HTN⟩
                case measure => simp [intOf]; omega
              · have t61 : (X == y) = false := by simp; exact xy
                cases p
                · by_cases gt : y < X
                  · have t69 : decide (y < X) = true := by simp; exact gt
                    have HYL := Lib.hid (HPB.out rfl)
                    have HTQ : Hid (T.length ≤ 1000000) := Lib.hid (Nat.le_trans HTL.out (by decide))
                    have HFL : True := trivial
                    go_wp2_with (at_builtin; first | (clear HFL; refine appG rfl _ _ rfl u11 T rfl HE5.out HB4.out y ao an ac L HS5.out (by omega) (by omega) rfl HTQ.out ?_; intro a8 n8 c8 w8 HE8 HO8; have HE8 := Lib.hid HE8; have BX8 := (HO8 bx HNE.out BXS.out).trans BX0; have v0 : w8.cell? ⟨bx, 0, none⟩ = some (.int .i64 X) := cell_block BX8 0; have v1' : w8.cell? ⟨bx, 1, none⟩ = some (.slice o m dd) := cell_block BX8 1; clear HO8 u0 u1) | (go_loud (refine appG rfl _ _ rfl (.slice a8 n8 c8) (T ++ [(y, L)]) rfl HE8.out HB4.out X o m dd M HSY.out x1 x2 rfl (by rw [List.length_append]; have := HTL.out; show T.length + 1 ≤ 1000000; omega) ?_); intro a9 n9 c9 w9 HE9 HO9))
                    have HN := Lib.hid HE9
                    clear HE9 HO9
                    have HTN : Hid (∃ T9, PutT os2 y L (L = gr ⟨P1, N1, co1, cn1, cc1, oo1, on1, oc1, cs1, os1⟩ y) (j + 1) T9 ∧ Ex5 v4 b2 w9 (.slice a9 n9 c9) T9) := Lib.hid (let ⟨h, e⟩ := HJE.out; ⟨_, HPU.out.step2 HYL.out h e, HN.out⟩)
                    go_wp2
                    go_roundw
                    case rel => exact ⟨true, j + 1, by omega, rfl, by go_num, Lib.hid (fun z => by cases z), HTN⟩
                    case measure => simp [intOf]; omega
                  · have t69 : decide (y < X) = false := by simp; omega
                    have HTQ : Hid (T.length ≤ 1000000) := Lib.hid (Nat.le_trans HTL.out (by decide))
                    go_wp2_with (at_builtin; go_loud (refine appG rfl _ _ rfl u11 T rfl HE5.out HB4.out X o m dd M HSY.out x1 x2 rfl HTQ.out ?_); intro a8 n8 c8 w8 HE8 HO8)
                    have HN := Lib.hid HE8
                    clear HE8 HO8
                    have HTN : Hid (∃ T9, PutT os2 y L (L = gr ⟨P1, N1, co1, cn1, cc1, oo1, on1, oc1, cs1, os1⟩ y) (j + 1) T9 ∧ Ex5 v4 b2 w8 (.slice a8 n8 c8) T9) := Lib.hid (let ⟨h, e⟩ := HJE.out; ⟨_, HPU.out.step h e, HN.out⟩)
                    go_wp2
                    go_roundw
                    case rel => exact ⟨false, j + 1, by omega, rfl, by go_num, Lib.hid (HPB.out), HTN⟩
                    case measure => simp [intOf]; omega
                · skip
                  have HTQ : Hid (T.length ≤ 1000000) := Lib.hid (Nat.le_trans HTL.out (by decide))
                  go_wp2_with (at_builtin; go_loud (refine appG rfl _ _ rfl u11 T rfl HE5.out HB4.out X o m dd M HSY.out x1 x2 rfl HTQ.out ?_); intro a8 n8 c8 w8 HE8 HO8)
                  have HN := Lib.hid HE8
                  clear HE8 HO8
                  have HTN : Hid (∃ T9, PutT os2 y L (L = gr ⟨P1, N1, co1, cn1, cc1, oo1, on1, oc1, cs1, os1⟩ y) (j + 1) T9 ∧ Ex5 v4 b2 w8 (.slice a8 n8 c8) T9) := Lib.hid (let ⟨h, e⟩ := HJE.out; ⟨_, HPU.out.step h e, HN.out⟩)
                  go_wp2
                  go_roundw
                  case rel => exact ⟨true, j + 1, by omega, rfl, by go_num, Lib.hid (fun z => by cases z), HTN⟩
                  case measure => simp [intOf]; omega
            · obtain rfl : on2 = j := by omega
              have HPU : Hid (PutT os2 y L (L = gr ⟨P1, N1, co1, cn1, cc1, oo1, on1, oc1, cs1, os1⟩ y) os2.length T) := Lib.hid (by rw [LO2.out]; exact HPU.out)
              cases p
              · have HYL := Lib.hid (HPB.out rfl)
                have HPF := Lib.hid (HPU.out.fin2 HYL.out)
                have HTQ : Hid (T.length ≤ 1000000) := Lib.hid (by have := HPU.out.len; have := LO2.out; omega)
                obtain ⟨T9, hT9⟩ : ∃ T9, T ++ [(y, L)] = T9 := ⟨_, rfl⟩
                rw [hT9] at HPF
                have HT9 := Lib.hid hT9
                clear hT9
                go_upto_region 21 with (at_builtin; go_loud (refine appG rfl _ _ rfl u11 T rfl HE5.out HB4.out y ao an ac L HS5.out (by omega) (by omega) rfl HTQ.out ?_); intro a8 n8 c8 w8 HE8 HO8; rw [HT9.out] at HE8; have HEF := Lib.hid HE8; clear HE8 HO8 HE5 HPU; have HDP := Lib.hid (duo_put (F := ⟨P1, N1, co1, cn1, cc1, oo1, on1, oc1, cs1, os1⟩) (G := ⟨P2, N2, co2, cn2, cc2, oo2, on2, oc2, cs2, os2⟩) HF.out HK1.out (Nat.le_of_eq HBE.out) HBB.out HG.out HLB.out HK2.out HB2.out HK4.out HEF.out (HPF.out.short HG.out.short.2 (Nat.le_trans HL6.out (by decide)))); have e3 := HDP.out.2.2.1; have f3 := HDP.out.2.2.2)
                have HX := Lib.hid HDP.out.1
                have HN9 := Lib.hid HDP.out.2.1
                generalize hwf : w8.setCell ⟨b2, 3, none⟩ (.slice a8 n8 c8) = wf
                rw [hwf] at HX
                clear hwf e3 f3 HDP HEF
                have HX : Hid (Duo w wf b b2 ⟨P1, N1, co1, cn1, cc1, oo1, on1, oc1, cs1, os1⟩ ⟨P2, N2, co2, cn2, cc2, a8, n8, c8, cs2, T9⟩) := HX
                have HMI : Hid (Fv.Mid ⟨P2, N2, co2, cn2, cc2, a8, n8, c8, cs2, T9⟩) := Lib.hid (by
                  have s := small_short HSR1.out.1
                  obtain ⟨_, _, e3, e4⟩ := HEE.out
                  have l1 := LC1.out
                  have hs1 := HSR1.out.1.1
                  refine mid_of ?_ ?_ LC2.out HN9.out ?_ ?_
                  · show cs2.length ≤ 100
                    rw [e3, seqC_len]
                    have : cs1.length * t ≤ 12 * 6 := Nat.mul_le_mul (by rw [l1]; exact hs1) HTT.out.2
                    omega
                  · show T9.length ≤ 100
                    have := HPF.out.len
                    have := LO2.out
                    omega
                  · show ∀ l ∈ cs2, l.length ≤ 60
                    rw [e3]; exact seqC_short s.1
                  · show ∀ o ∈ T9, o.2.length ≤ 60
                    exact HPF.out.short (by rw [e4]; exact s.2) HL6.out)
                by_cases rH : ¬ Fv.Rt ⟨P2, N2, co2, cn2, cc2, a8, n8, c8, cs2, T9⟩
                · have R3 : Hid (∀ W, Fv.At ⟨P2, N2, co2, cn2, cc2, a8, n8, c8, cs2, T9⟩ W → Calls Try.prog 19 #[.agg #[.int .i64 P2, .int .i64 N2, .slice co2 cn2 cc2, .slice a8 n8 c8]] W fun e w' => e = .returned (.int .i64 50) ∧ Below W.heap.size W w') := Lib.hid (fun W h => right_no50 ⟨P2, N2, co2, cn2, cc2, a8, n8, c8, cs2, T9⟩ HMI.out rH W h)
                  have a0 : wf.cell? ⟨b, 0, none⟩ = some (.int .i64 P1) := (HX.out).a.c0
                  have a1 : wf.cell? ⟨b, 1, none⟩ = some (.int .i64 N1) := (HX.out).a.c1
                  have a2 : wf.cell? ⟨b, 2, none⟩ = some (.slice co1 cn1 cc1) := (HX.out).a.c2
                  have a3 : wf.cell? ⟨b, 3, none⟩ = some (.slice oo1 on1 oc1) := (HX.out).a.c3
                  have a4 : wf.cell? ⟨b2, 0, none⟩ = some (.int .i64 P2) := (HX.out).b.c0
                  have a5 : wf.cell? ⟨b2, 1, none⟩ = some (.int .i64 N2) := (HX.out).b.c1
                  have a6 : wf.cell? ⟨b2, 2, none⟩ = some (.slice co2 cn2 cc2) := (HX.out).b.c2
                  have a7 : wf.cell? ⟨b2, 3, none⟩ = some (.slice a8 n8 c8) := (HX.out).b.c3
                  go_wp2_with fail
                  (with_reducible refine (R3.out _ HX.out.b.at_).mono ?_)
                  rintro e vv ⟨rfl, q⟩
                  have HX := Lib.hid (HX.out.keep q)
                  clear a0 a1 a2 a3 a4 a5 a6 a7 q R3
                  go_wp2_with fail
                  (with_reducible refine (HAW.out _).mono ?_)
                  rintro e wz ⟨rfl, qz⟩
                  have HZ := Lib.hid (HX.out.a.bw.trans (qz.mono HX.out.a.bw.size))
                  clear qz
                  go_wp2
                  go_returns
                  exact ⟨rfl, HZ.out⟩
                · have rH := Classical.not_not.1 rH
                  have R3 : Hid (∀ W, Fv.At ⟨P2, N2, co2, cn2, cc2, a8, n8, c8, cs2, T9⟩ W → Calls Try.prog 19 #[.agg #[.int .i64 P2, .int .i64 N2, .slice co2 cn2 cc2, .slice a8 n8 c8]] W fun e w' => e = .returned (.int .i64 0) ∧ Below W.heap.size W w') := Lib.hid (fun W h => right_ok ⟨P2, N2, co2, cn2, cc2, a8, n8, c8, cs2, T9⟩ HMI.out rH W h)
                  have HRH := Lib.hid rH
                  have HCE : Hid (CanEq ⟨P1, N1, co1, cn1, cc1, oo1, on1, oc1, cs1, os1⟩ ⟨P2, N2, co2, cn2, cc2, a8, n8, c8, cs2, T9⟩) := Lib.hid (by
                    obtain ⟨e1, e2, e3, e4⟩ := HEE.out
                    refine turns_same (F := ⟨P1, N1, co1, cn1, cc1, oo1, on1, oc1, cs1, os1⟩) (G := ⟨P2, N2, co2, cn2, cc2, a8, n8, c8, cs2, T9⟩) HSR1.out.2 HRH.out LC1.out LC2.out HTT.out.1 e1 e2 e3 (fun o ho => HPF.out.old o (by rw [e4]; exact ho)) (fun o ho => ?_)
                    rcases HPF.out.new o ho with q | ⟨q, q2⟩
                    · exact .inl (by rw [e4] at q; exact q)
                    · exact .inr (by rw [q]; exact q2))
                  have a0 : wf.cell? ⟨b, 0, none⟩ = some (.int .i64 P1) := (HX.out).a.c0
                  have a1 : wf.cell? ⟨b, 1, none⟩ = some (.int .i64 N1) := (HX.out).a.c1
                  have a2 : wf.cell? ⟨b, 2, none⟩ = some (.slice co1 cn1 cc1) := (HX.out).a.c2
                  have a3 : wf.cell? ⟨b, 3, none⟩ = some (.slice oo1 on1 oc1) := (HX.out).a.c3
                  have a4 : wf.cell? ⟨b2, 0, none⟩ = some (.int .i64 P2) := (HX.out).b.c0
                  have a5 : wf.cell? ⟨b2, 1, none⟩ = some (.int .i64 N2) := (HX.out).b.c1
                  have a6 : wf.cell? ⟨b2, 2, none⟩ = some (.slice co2 cn2 cc2) := (HX.out).b.c2
                  have a7 : wf.cell? ⟨b2, 3, none⟩ = some (.slice a8 n8 c8) := (HX.out).b.c3
                  go_wp2_with fail
                  (with_reducible refine (R3.out _ HX.out.b.at_).mono ?_)
                  rintro e vw ⟨rfl, q⟩
                  have HX := Lib.hid (HX.out.keep q)
                  clear a0 a1 a2 a3 a4 a5 a6 a7 q R3
                  have D1 : Hid (∀ W, Fv.At ⟨P1, N1, co1, cn1, cc1, oo1, on1, oc1, cs1, os1⟩ W → Calls Try.prog 11 #[.agg #[.int .i64 P1, .int .i64 N1, .slice co1 cn1 cc1, .slice oo1 on1 oc1]] W fun e w' => ∃ p n c l k o m j g s, e = .returned (.agg #[.int .i64 p, .int .i64 n, .slice c l k, .slice o m j]) ∧ Hid (IsCan ⟨P1, N1, co1, cn1, cc1, oo1, on1, oc1, cs1, os1⟩ ⟨p, n, c, l, k, o, m, j, g, s⟩ ∧ Fv.At ⟨p, n, c, l, k, o, m, j, g, s⟩ w') ∧ Below W.heap.size W w') := Lib.hid (fun W h => (form_ok ⟨P1, N1, co1, cn1, cc1, oo1, on1, oc1, cs1, os1⟩ HSR1.out.1.mid HSR1.out.2 W h).mono (by rintro e w' ⟨⟨p, n, c, l, k, o, m, j, g, s⟩, rfl, hc, ho, q⟩; exact ⟨p, n, c, l, k, o, m, j, g, s, rfl, Lib.hid ⟨hc, ho.at_⟩, q⟩))
                  have D2 : Hid (∀ W, Fv.At ⟨P2, N2, co2, cn2, cc2, a8, n8, c8, cs2, T9⟩ W → Calls Try.prog 11 #[.agg #[.int .i64 P2, .int .i64 N2, .slice co2 cn2 cc2, .slice a8 n8 c8]] W fun e w' => ∃ p n c l k o m j g s, e = .returned (.agg #[.int .i64 p, .int .i64 n, .slice c l k, .slice o m j]) ∧ Hid (IsCan ⟨P2, N2, co2, cn2, cc2, a8, n8, c8, cs2, T9⟩ ⟨p, n, c, l, k, o, m, j, g, s⟩ ∧ Fv.At ⟨p, n, c, l, k, o, m, j, g, s⟩ w') ∧ Below W.heap.size W w') := Lib.hid (fun W h => (form_ok ⟨P2, N2, co2, cn2, cc2, a8, n8, c8, cs2, T9⟩ HMI.out HRH.out W h).mono (by rintro e w' ⟨⟨p, n, c, l, k, o, m, j, g, s⟩, rfl, hc, ho, q⟩; exact ⟨p, n, c, l, k, o, m, j, g, s, rfl, Lib.hid ⟨hc, ho.at_⟩, q⟩))
                  have HSM : Hid (∀ W, Fv.At ⟨P1, N1, co1, cn1, cc1, oo1, on1, oc1, cs1, os1⟩ W → Fv.At ⟨P2, N2, co2, cn2, cc2, a8, n8, c8, cs2, T9⟩ W → Calls Try.prog 18 #[.agg #[.int .i64 P1, .int .i64 N1, .slice co1 cn1 cc1, .slice oo1 on1 oc1], .agg #[.int .i64 P2, .int .i64 N2, .slice co2 cn2 cc2, .slice a8 n8 c8]] W fun e w' => e = .returned (.bool true) ∧ Below W.heap.size W w') := Lib.hid (fun W h k => same_ok ⟨P1, N1, co1, cn1, cc1, oo1, on1, oc1, cs1, os1⟩ ⟨P2, N2, co2, cn2, cc2, a8, n8, c8, cs2, T9⟩ HSR1.out.1.mid HMI.out HSR1.out.2 HRH.out W h k true ⟨fun _ => HCE.out, fun _ => rfl⟩)
                  have HS : Hid (∀ W, Duo w W b b2 ⟨P1, N1, co1, cn1, cc1, oo1, on1, oc1, cs1, os1⟩ ⟨P2, N2, co2, cn2, cc2, a8, n8, c8, cs2, T9⟩ → W.cell? ⟨b, 0, none⟩ = some (.int .i64 P1) ∧ W.cell? ⟨b, 1, none⟩ = some (.int .i64 N1) ∧ W.cell? ⟨b, 2, none⟩ = some (.slice co1 cn1 cc1) ∧ W.cell? ⟨b, 3, none⟩ = some (.slice oo1 on1 oc1) ∧ W.cell? ⟨b2, 0, none⟩ = some (.int .i64 P2) ∧ W.cell? ⟨b2, 1, none⟩ = some (.int .i64 N2) ∧ W.cell? ⟨b2, 2, none⟩ = some (.slice co2 cn2 cc2) ∧ W.cell? ⟨b2, 3, none⟩ = some (.slice a8 n8 c8) ∧ Hid (Duo w W b b2 ⟨P1, N1, co1, cn1, cc1, oo1, on1, oc1, cs1, os1⟩ ⟨P2, N2, co2, cn2, cc2, a8, n8, c8, cs2, T9⟩)) := Lib.hid (fun W h => ⟨h.a.c0, h.a.c1, h.a.c2, h.a.c3, h.b.c0, h.b.c1, h.b.c2, h.b.c3, Lib.hid h⟩)
                  go_upto_region 23 with fail
                  refine wp_region_held_drew (S := (fun W => W.cell? ⟨b, 0, none⟩ = some (.int .i64 P1) ∧ W.cell? ⟨b, 1, none⟩ = some (.int .i64 N1) ∧ W.cell? ⟨b, 2, none⟩ = some (.slice co1 cn1 cc1) ∧ W.cell? ⟨b, 3, none⟩ = some (.slice oo1 on1 oc1) ∧ W.cell? ⟨b2, 0, none⟩ = some (.int .i64 P2) ∧ W.cell? ⟨b2, 1, none⟩ = some (.int .i64 N2) ∧ W.cell? ⟨b2, 2, none⟩ = some (.slice co2 cn2 cc2) ∧ W.cell? ⟨b2, 3, none⟩ = some (.slice a8 n8 c8) ∧ Hid (Duo w W b b2 ⟨P1, N1, co1, cn1, cc1, oo1, on1, oc1, cs1, os1⟩ ⟨P2, N2, co2, cn2, cc2, a8, n8, c8, cs2, T9⟩))) (by kernel_rfl) ?_ (fun hHeld => ?_)
                  · exact HS.out _ (HX.out.keep (Below.refl _ _).drew)
                  refine wpAnyH_take (i := 0) (oi := _) (v := ?_) rfl (by kernel_rfl) (by kernel_rfl) (by kernel_rfl) (fun _ _ _ h => h) (Or.inl ⟨by kernel_rfl, ?_⟩) (by assumption) ?_
                  rotate_left 1
                  focus (intro wq hSw; (try dsimp only at hSw); obtain ⟨s0, s1, s2, s3, s4, s5, s6, s7, s8⟩ := hSw; go_simp; (try with_reducible rfl); done)
                  try simp only [List.getElem_toArray, List.getElem_cons_zero, List.getElem_cons_succ, Act.put, List.setIfInBounds_toArray, List.set_cons_zero, List.set_cons_succ]
                  refine wpAnyH_take (i := 1) (oi := _) (v := ?_) rfl (by kernel_rfl) (by kernel_rfl) (by kernel_rfl) (fun _ _ _ h => h) (Or.inl ⟨by kernel_rfl, ?_⟩) (by assumption) ?_
                  rotate_left 1
                  focus (intro wq hSw; (try dsimp only at hSw); obtain ⟨s0, s1, s2, s3, s4, s5, s6, s7, s8⟩ := hSw; go_simp; (try with_reducible rfl); done)
                  try simp only [List.getElem_toArray, List.getElem_cons_zero, List.getElem_cons_succ, Act.put, List.setIfInBounds_toArray, List.set_cons_zero, List.set_cons_succ]
                  refine wpAnyH_ready (rs := [2]) (by kernel_rfl) (by simp) ?_
                  refine AllReadyH.cons (o := _) rfl (fun K hK => ?_) AllReadyH.nil
                  rw [if_pos (by kernel_rfl)]
                  go_simp
                  (go_at_call 18; (with_reducible refine (HSM.out _ hHeld.2.2.2.2.2.2.2.2.out.a.at_ hHeld.2.2.2.2.2.2.2.2.out.b.at_).mono ?_); rintro e z1 ⟨rfl, q⟩)
                  first | refine hK.out _ _ ?_ (fun hHeld => ?_) | (go_wp2_with fail; refine hK.out _ _ ?_ (fun hHeld => ?_))
                  · exact HS.out _ (hHeld.2.2.2.2.2.2.2.2.out.keep q)
                  clear hK K
                  try simp only [List.getElem_toArray, List.getElem_cons_zero, List.getElem_cons_succ, Act.put, List.setIfInBounds_toArray, List.set_cons_zero, List.set_cons_succ]
                  refine wpAnyH_take (i := 3) (oi := _) (v := ?_) rfl (by kernel_rfl) (by kernel_rfl) (by kernel_rfl) (fun _ _ _ h => h) (Or.inl ⟨by kernel_rfl, ?_⟩) (by assumption) ?_
                  rotate_left 1
                  focus (intro wq hSw; (try dsimp only at hSw); obtain ⟨s0, s1, s2, s3, s4, s5, s6, s7, s8⟩ := hSw; go_simp; (try with_reducible rfl); done)
                  try simp only [List.getElem_toArray, List.getElem_cons_zero, List.getElem_cons_succ, Act.put, List.setIfInBounds_toArray, List.set_cons_zero, List.set_cons_succ]
                  refine wpAnyH_take (i := 4) (oi := _) (v := ?_) rfl (by kernel_rfl) (by kernel_rfl) (by kernel_rfl) (fun _ _ _ h => h) (Or.inl ⟨by kernel_rfl, ?_⟩) (by assumption) ?_
                  rotate_left 1
                  focus (intro wq hSw; (try dsimp only at hSw); obtain ⟨s0, s1, s2, s3, s4, s5, s6, s7, s8⟩ := hSw; go_simp; (try with_reducible rfl); done)
                  try simp only [List.getElem_toArray, List.getElem_cons_zero, List.getElem_cons_succ, Act.put, List.setIfInBounds_toArray, List.set_cons_zero, List.set_cons_succ]
                  refine wpAnyH_take (i := 6) (oi := _) (v := ?_) rfl (by kernel_rfl) (by kernel_rfl) (by kernel_rfl) (fun _ _ _ h => h) (Or.inl ⟨by kernel_rfl, ?_⟩) (by assumption) ?_
                  rotate_left 1
                  focus (intro wq hSw; (try dsimp only at hSw); obtain ⟨s0, s1, s2, s3, s4, s5, s6, s7, s8⟩ := hSw; go_simp; (try with_reducible rfl); done)
                  try simp only [List.getElem_toArray, List.getElem_cons_zero, List.getElem_cons_succ, Act.put, List.setIfInBounds_toArray, List.set_cons_zero, List.set_cons_succ]
                  refine wpAnyH_ready (rs := [5]) (by kernel_rfl) (by simp) ?_
                  refine AllReadyH.cons (o := _) rfl (fun K hK => ?_) AllReadyH.nil
                  rw [if_pos (by kernel_rfl)]
                  go_simp
                  (go_at_call 11; (with_reducible refine (D1.out _ hHeld.2.2.2.2.2.2.2.2.out.a.at_).mono ?_); rintro e z2 ⟨p3, n3, c3, l3, k3, o3, m3, j3, g3, s3, rfl, HA, q⟩)
                  first | refine hK.out _ _ ?_ (fun hHeld => ?_) | (go_wp2_with fail; refine hK.out _ _ ?_ (fun hHeld => ?_))
                  · exact HS.out _ (hHeld.2.2.2.2.2.2.2.2.out.keep q)
                  clear hK K
                  try simp only [List.getElem_toArray, List.getElem_cons_zero, List.getElem_cons_succ, Act.put, List.setIfInBounds_toArray, List.set_cons_zero, List.set_cons_succ]
                  refine wpAnyH_ready (rs := [7]) (by kernel_rfl) (by simp) ?_
                  refine AllReadyH.cons (o := _) rfl (fun K hK => ?_) AllReadyH.nil
                  rw [if_pos (by kernel_rfl)]
                  go_simp
                  (go_at_call 11; (with_reducible refine (D2.out _ hHeld.2.2.2.2.2.2.2.2.out.b.at_).mono ?_); rintro e z3 ⟨p4, n4, c4, l4, k4, o4, m4, j4, g4, s4, rfl, HB, q⟩; have HA := Lib.hid (⟨HA.out.1, HA.out.2.keep q⟩ : _ ∧ _))
                  first | refine hK.out _ _ ?_ (fun hHeld => ?_) | (go_wp2_with fail; refine hK.out _ _ ?_ (fun hHeld => ?_))
                  · exact HS.out _ (hHeld.2.2.2.2.2.2.2.2.out.keep q)
                  clear hK K
                  try simp only [List.getElem_toArray, List.getElem_cons_zero, List.getElem_cons_succ, Act.put, List.setIfInBounds_toArray, List.set_cons_zero, List.set_cons_succ]
                  refine wpAnyH_ready (rs := [8]) (by kernel_rfl) (by simp) ?_
                  refine AllReadyH.cons (o := _) rfl (fun K hK => ?_) AllReadyH.nil
                  rw [if_pos (by kernel_rfl)]
                  go_simp
                  (go_at_call 13; (with_reducible refine (alikeForms_any ⟨p3, n3, c3, l3, k3, o3, m3, j3, g3, s3⟩ ⟨p4, n4, c4, l4, k4, o4, m4, j4, g4, s4⟩ _ HA.out.2 HB.out.2 true ⟨fun _ => (canEq_same HA.out.1 HB.out.1).1 HCE.out, fun _ => rfl⟩).mono ?_); rintro e z4 ⟨rfl, q⟩)
                  first | refine hK.out _ _ ?_ (fun hHeld => ?_) | (go_wp2_with fail; refine hK.out _ _ ?_ (fun hHeld => ?_))
                  · exact HS.out _ (hHeld.2.2.2.2.2.2.2.2.out.keep q)
                  clear hK K
                  try simp only [List.getElem_toArray, List.getElem_cons_zero, List.getElem_cons_succ, Act.put, List.setIfInBounds_toArray, List.set_cons_zero, List.set_cons_succ]
                  refine wpAnyH_take (i := 9) (oi := _) (v := ?_) rfl (by kernel_rfl) (by kernel_rfl) (by kernel_rfl) (fun _ _ _ h => h) (Or.inl ⟨by kernel_rfl, ?_⟩) (by assumption) ?_
                  rotate_left 1
                  focus (intro wq hSw; (try dsimp only at hSw); obtain ⟨s0, s1, s2, s3, s4, s5, s6, s7, s8⟩ := hSw; go_simp; (try with_reducible rfl); done)
                  try simp only [List.getElem_toArray, List.getElem_cons_zero, List.getElem_cons_succ, Act.put, List.setIfInBounds_toArray, List.set_cons_zero, List.set_cons_succ]
                  refine wpAnyH_take (i := 10) (oi := _) (v := ?_) rfl (by kernel_rfl) (by kernel_rfl) (by kernel_rfl) (fun _ _ _ h => h) (Or.inl ⟨by kernel_rfl, ?_⟩) (by assumption) ?_
                  rotate_left 1
                  focus (intro wq hSw; (try dsimp only at hSw); obtain ⟨s0, s1, s2, s3, s4, s5, s6, s7, s8⟩ := hSw; go_simp; (try with_reducible rfl); done)
                  try simp only [List.getElem_toArray, List.getElem_cons_zero, List.getElem_cons_succ, Act.put, List.setIfInBounds_toArray, List.set_cons_zero, List.set_cons_succ]
                  refine wpAnyH_ready (rs := [11]) (by kernel_rfl) (by simp) ?_
                  refine AllReadyH.cons (o := _) rfl (fun K hK => ?_) AllReadyH.nil
                  rw [if_pos (by kernel_rfl)]
                  go_simp
                  (go_at_call 9; (with_reducible refine (HAW.out _).mono ?_); rintro e z5 ⟨rfl, q⟩)
                  first | refine hK.out _ _ ?_ (fun hHeld => ?_) | (go_wp2_with fail; refine hK.out _ _ ?_ (fun hHeld => ?_))
                  · exact HS.out _ (hHeld.2.2.2.2.2.2.2.2.out.keep q)
                  clear hK K
                  try simp only [List.getElem_toArray, List.getElem_cons_zero, List.getElem_cons_succ, Act.put, List.setIfInBounds_toArray, List.set_cons_zero, List.set_cons_succ]
                  refine wpAnyH_take (i := 12) (oi := _) (v := ?_) rfl (by kernel_rfl) (by kernel_rfl) (by kernel_rfl) (fun _ _ _ h => h) (Or.inl ⟨by kernel_rfl, ?_⟩) (by assumption) ?_
                  rotate_left 1
                  focus (intro wq hSw; (try dsimp only at hSw); obtain ⟨s0, s1, s2, s3, s4, s5, s6, s7, s8⟩ := hSw; go_simp; (try with_reducible rfl); done)
                  try simp only [List.getElem_toArray, List.getElem_cons_zero, List.getElem_cons_succ, Act.put, List.setIfInBounds_toArray, List.set_cons_zero, List.set_cons_succ]
                  refine wpAnyH_take (i := 13) (oi := _) (v := ?_) rfl (by kernel_rfl) (by kernel_rfl) (by kernel_rfl) (fun _ _ _ h => h) (Or.inl ⟨by kernel_rfl, ?_⟩) (by assumption) ?_
                  rotate_left 1
                  focus (intro wq hSw; (try dsimp only at hSw); obtain ⟨s0, s1, s2, s3, s4, s5, s6, s7, s8⟩ := hSw; go_simp; (try with_reducible rfl); done)
                  try simp only [List.getElem_toArray, List.getElem_cons_zero, List.getElem_cons_succ, Act.put, List.setIfInBounds_toArray, List.set_cons_zero, List.set_cons_succ]
                  refine wpAnyH_done (by kernel_rfl) ?_ _
                  go_wp2
                  go_returns
                  exact ⟨rfl, hHeld.2.2.2.2.2.2.2.2.out.a.bw⟩
              · have HPF := Lib.hid HPU.out.fin
                obtain ⟨a8, c8, hv⟩ := HE5.out.shape HB4.out
                obtain ⟨n8, hn8⟩ : ∃ n8, T.length = n8 := ⟨_, rfl⟩
                rw [hn8] at hv
                subst hv
                have HEF := HE5
                clear HE5 HPU hn8
                obtain ⟨T9, hT9⟩ : ∃ T9, T = T9 := ⟨_, rfl⟩
                rw [hT9] at HPF HEF
                clear hT9
                have HDP := Lib.hid (duo_put (F := ⟨P1, N1, co1, cn1, cc1, oo1, on1, oc1, cs1, os1⟩) (G := ⟨P2, N2, co2, cn2, cc2, oo2, on2, oc2, cs2, os2⟩) HF.out HK1.out (Nat.le_of_eq HBE.out) HBB.out HG.out HLB.out HK2.out HB2.out HK4.out HEF.out (HPF.out.short HG.out.short.2 (Nat.le_trans HL6.out (by decide))))
                have e3 := HDP.out.2.2.1
                have f3 := HDP.out.2.2.2
                go_upto_region 21 with fail
                have HX := Lib.hid HDP.out.1
                have HN9 := Lib.hid HDP.out.2.1
                generalize hwf : wr.setCell ⟨b2, 3, none⟩ (.slice a8 n8 c8) = wf
                rw [hwf] at HX
                clear hwf e3 f3 HDP HEF
                have HX : Hid (Duo w wf b b2 ⟨P1, N1, co1, cn1, cc1, oo1, on1, oc1, cs1, os1⟩ ⟨P2, N2, co2, cn2, cc2, a8, n8, c8, cs2, T9⟩) := HX
                have HMI : Hid (Fv.Mid ⟨P2, N2, co2, cn2, cc2, a8, n8, c8, cs2, T9⟩) := Lib.hid (by
                  have s := small_short HSR1.out.1
                  obtain ⟨_, _, e3, e4⟩ := HEE.out
                  have l1 := LC1.out
                  have hs1 := HSR1.out.1.1
                  refine mid_of ?_ ?_ LC2.out HN9.out ?_ ?_
                  · show cs2.length ≤ 100
                    rw [e3, seqC_len]
                    have : cs1.length * t ≤ 12 * 6 := Nat.mul_le_mul (by rw [l1]; exact hs1) HTT.out.2
                    omega
                  · show T9.length ≤ 100
                    have := HPF.out.len
                    have := LO2.out
                    omega
                  · show ∀ l ∈ cs2, l.length ≤ 60
                    rw [e3]; exact seqC_short s.1
                  · show ∀ o ∈ T9, o.2.length ≤ 60
                    exact HPF.out.short (by rw [e4]; exact s.2) HL6.out)
                by_cases rH : ¬ Fv.Rt ⟨P2, N2, co2, cn2, cc2, a8, n8, c8, cs2, T9⟩
                · have R3 : Hid (∀ W, Fv.At ⟨P2, N2, co2, cn2, cc2, a8, n8, c8, cs2, T9⟩ W → Calls Try.prog 19 #[.agg #[.int .i64 P2, .int .i64 N2, .slice co2 cn2 cc2, .slice a8 n8 c8]] W fun e w' => e = .returned (.int .i64 50) ∧ Below W.heap.size W w') := Lib.hid (fun W h => right_no50 ⟨P2, N2, co2, cn2, cc2, a8, n8, c8, cs2, T9⟩ HMI.out rH W h)
                  have a0 : wf.cell? ⟨b, 0, none⟩ = some (.int .i64 P1) := (HX.out).a.c0
                  have a1 : wf.cell? ⟨b, 1, none⟩ = some (.int .i64 N1) := (HX.out).a.c1
                  have a2 : wf.cell? ⟨b, 2, none⟩ = some (.slice co1 cn1 cc1) := (HX.out).a.c2
                  have a3 : wf.cell? ⟨b, 3, none⟩ = some (.slice oo1 on1 oc1) := (HX.out).a.c3
                  have a4 : wf.cell? ⟨b2, 0, none⟩ = some (.int .i64 P2) := (HX.out).b.c0
                  have a5 : wf.cell? ⟨b2, 1, none⟩ = some (.int .i64 N2) := (HX.out).b.c1
                  have a6 : wf.cell? ⟨b2, 2, none⟩ = some (.slice co2 cn2 cc2) := (HX.out).b.c2
                  have a7 : wf.cell? ⟨b2, 3, none⟩ = some (.slice a8 n8 c8) := (HX.out).b.c3
                  go_wp2_with fail
                  (with_reducible refine (R3.out _ HX.out.b.at_).mono ?_)
                  rintro e vv ⟨rfl, q⟩
                  have HX := Lib.hid (HX.out.keep q)
                  clear a0 a1 a2 a3 a4 a5 a6 a7 q R3
                  go_wp2_with fail
                  (with_reducible refine (HAW.out _).mono ?_)
                  rintro e wz ⟨rfl, qz⟩
                  have HZ := Lib.hid (HX.out.a.bw.trans (qz.mono HX.out.a.bw.size))
                  clear qz
                  go_wp2
                  go_returns
                  exact ⟨rfl, HZ.out⟩
                · have rH := Classical.not_not.1 rH
                  have R3 : Hid (∀ W, Fv.At ⟨P2, N2, co2, cn2, cc2, a8, n8, c8, cs2, T9⟩ W → Calls Try.prog 19 #[.agg #[.int .i64 P2, .int .i64 N2, .slice co2 cn2 cc2, .slice a8 n8 c8]] W fun e w' => e = .returned (.int .i64 0) ∧ Below W.heap.size W w') := Lib.hid (fun W h => right_ok ⟨P2, N2, co2, cn2, cc2, a8, n8, c8, cs2, T9⟩ HMI.out rH W h)
                  have HRH := Lib.hid rH
                  have HCE : Hid (CanEq ⟨P1, N1, co1, cn1, cc1, oo1, on1, oc1, cs1, os1⟩ ⟨P2, N2, co2, cn2, cc2, a8, n8, c8, cs2, T9⟩) := Lib.hid (by
                    obtain ⟨e1, e2, e3, e4⟩ := HEE.out
                    refine turns_same (F := ⟨P1, N1, co1, cn1, cc1, oo1, on1, oc1, cs1, os1⟩) (G := ⟨P2, N2, co2, cn2, cc2, a8, n8, c8, cs2, T9⟩) HSR1.out.2 HRH.out LC1.out LC2.out HTT.out.1 e1 e2 e3 (fun o ho => HPF.out.old o (by rw [e4]; exact ho)) (fun o ho => ?_)
                    rcases HPF.out.new o ho with q | ⟨q, q2⟩
                    · exact .inl (by rw [e4] at q; exact q)
                    · exact .inr (by rw [q]; exact q2))
                  have a0 : wf.cell? ⟨b, 0, none⟩ = some (.int .i64 P1) := (HX.out).a.c0
                  have a1 : wf.cell? ⟨b, 1, none⟩ = some (.int .i64 N1) := (HX.out).a.c1
                  have a2 : wf.cell? ⟨b, 2, none⟩ = some (.slice co1 cn1 cc1) := (HX.out).a.c2
                  have a3 : wf.cell? ⟨b, 3, none⟩ = some (.slice oo1 on1 oc1) := (HX.out).a.c3
                  have a4 : wf.cell? ⟨b2, 0, none⟩ = some (.int .i64 P2) := (HX.out).b.c0
                  have a5 : wf.cell? ⟨b2, 1, none⟩ = some (.int .i64 N2) := (HX.out).b.c1
                  have a6 : wf.cell? ⟨b2, 2, none⟩ = some (.slice co2 cn2 cc2) := (HX.out).b.c2
                  have a7 : wf.cell? ⟨b2, 3, none⟩ = some (.slice a8 n8 c8) := (HX.out).b.c3
                  go_wp2_with fail
                  (with_reducible refine (R3.out _ HX.out.b.at_).mono ?_)
                  rintro e vw ⟨rfl, q⟩
                  have HX := Lib.hid (HX.out.keep q)
                  clear a0 a1 a2 a3 a4 a5 a6 a7 q R3
                  have D1 : Hid (∀ W, Fv.At ⟨P1, N1, co1, cn1, cc1, oo1, on1, oc1, cs1, os1⟩ W → Calls Try.prog 11 #[.agg #[.int .i64 P1, .int .i64 N1, .slice co1 cn1 cc1, .slice oo1 on1 oc1]] W fun e w' => ∃ p n c l k o m j g s, e = .returned (.agg #[.int .i64 p, .int .i64 n, .slice c l k, .slice o m j]) ∧ Hid (IsCan ⟨P1, N1, co1, cn1, cc1, oo1, on1, oc1, cs1, os1⟩ ⟨p, n, c, l, k, o, m, j, g, s⟩ ∧ Fv.At ⟨p, n, c, l, k, o, m, j, g, s⟩ w') ∧ Below W.heap.size W w') := Lib.hid (fun W h => (form_ok ⟨P1, N1, co1, cn1, cc1, oo1, on1, oc1, cs1, os1⟩ HSR1.out.1.mid HSR1.out.2 W h).mono (by rintro e w' ⟨⟨p, n, c, l, k, o, m, j, g, s⟩, rfl, hc, ho, q⟩; exact ⟨p, n, c, l, k, o, m, j, g, s, rfl, Lib.hid ⟨hc, ho.at_⟩, q⟩))
                  have D2 : Hid (∀ W, Fv.At ⟨P2, N2, co2, cn2, cc2, a8, n8, c8, cs2, T9⟩ W → Calls Try.prog 11 #[.agg #[.int .i64 P2, .int .i64 N2, .slice co2 cn2 cc2, .slice a8 n8 c8]] W fun e w' => ∃ p n c l k o m j g s, e = .returned (.agg #[.int .i64 p, .int .i64 n, .slice c l k, .slice o m j]) ∧ Hid (IsCan ⟨P2, N2, co2, cn2, cc2, a8, n8, c8, cs2, T9⟩ ⟨p, n, c, l, k, o, m, j, g, s⟩ ∧ Fv.At ⟨p, n, c, l, k, o, m, j, g, s⟩ w') ∧ Below W.heap.size W w') := Lib.hid (fun W h => (form_ok ⟨P2, N2, co2, cn2, cc2, a8, n8, c8, cs2, T9⟩ HMI.out HRH.out W h).mono (by rintro e w' ⟨⟨p, n, c, l, k, o, m, j, g, s⟩, rfl, hc, ho, q⟩; exact ⟨p, n, c, l, k, o, m, j, g, s, rfl, Lib.hid ⟨hc, ho.at_⟩, q⟩))
                  have HSM : Hid (∀ W, Fv.At ⟨P1, N1, co1, cn1, cc1, oo1, on1, oc1, cs1, os1⟩ W → Fv.At ⟨P2, N2, co2, cn2, cc2, a8, n8, c8, cs2, T9⟩ W → Calls Try.prog 18 #[.agg #[.int .i64 P1, .int .i64 N1, .slice co1 cn1 cc1, .slice oo1 on1 oc1], .agg #[.int .i64 P2, .int .i64 N2, .slice co2 cn2 cc2, .slice a8 n8 c8]] W fun e w' => e = .returned (.bool true) ∧ Below W.heap.size W w') := Lib.hid (fun W h k => same_ok ⟨P1, N1, co1, cn1, cc1, oo1, on1, oc1, cs1, os1⟩ ⟨P2, N2, co2, cn2, cc2, a8, n8, c8, cs2, T9⟩ HSR1.out.1.mid HMI.out HSR1.out.2 HRH.out W h k true ⟨fun _ => HCE.out, fun _ => rfl⟩)
                  have HS : Hid (∀ W, Duo w W b b2 ⟨P1, N1, co1, cn1, cc1, oo1, on1, oc1, cs1, os1⟩ ⟨P2, N2, co2, cn2, cc2, a8, n8, c8, cs2, T9⟩ → W.cell? ⟨b, 0, none⟩ = some (.int .i64 P1) ∧ W.cell? ⟨b, 1, none⟩ = some (.int .i64 N1) ∧ W.cell? ⟨b, 2, none⟩ = some (.slice co1 cn1 cc1) ∧ W.cell? ⟨b, 3, none⟩ = some (.slice oo1 on1 oc1) ∧ W.cell? ⟨b2, 0, none⟩ = some (.int .i64 P2) ∧ W.cell? ⟨b2, 1, none⟩ = some (.int .i64 N2) ∧ W.cell? ⟨b2, 2, none⟩ = some (.slice co2 cn2 cc2) ∧ W.cell? ⟨b2, 3, none⟩ = some (.slice a8 n8 c8) ∧ Hid (Duo w W b b2 ⟨P1, N1, co1, cn1, cc1, oo1, on1, oc1, cs1, os1⟩ ⟨P2, N2, co2, cn2, cc2, a8, n8, c8, cs2, T9⟩)) := Lib.hid (fun W h => ⟨h.a.c0, h.a.c1, h.a.c2, h.a.c3, h.b.c0, h.b.c1, h.b.c2, h.b.c3, Lib.hid h⟩)
                  go_upto_region 23 with fail
                  refine wp_region_held_drew (S := (fun W => W.cell? ⟨b, 0, none⟩ = some (.int .i64 P1) ∧ W.cell? ⟨b, 1, none⟩ = some (.int .i64 N1) ∧ W.cell? ⟨b, 2, none⟩ = some (.slice co1 cn1 cc1) ∧ W.cell? ⟨b, 3, none⟩ = some (.slice oo1 on1 oc1) ∧ W.cell? ⟨b2, 0, none⟩ = some (.int .i64 P2) ∧ W.cell? ⟨b2, 1, none⟩ = some (.int .i64 N2) ∧ W.cell? ⟨b2, 2, none⟩ = some (.slice co2 cn2 cc2) ∧ W.cell? ⟨b2, 3, none⟩ = some (.slice a8 n8 c8) ∧ Hid (Duo w W b b2 ⟨P1, N1, co1, cn1, cc1, oo1, on1, oc1, cs1, os1⟩ ⟨P2, N2, co2, cn2, cc2, a8, n8, c8, cs2, T9⟩))) (by kernel_rfl) ?_ (fun hHeld => ?_)
                  · exact HS.out _ (HX.out.keep (Below.refl _ _).drew)
                  refine wpAnyH_take (i := 0) (oi := _) (v := ?_) rfl (by kernel_rfl) (by kernel_rfl) (by kernel_rfl) (fun _ _ _ h => h) (Or.inl ⟨by kernel_rfl, ?_⟩) (by assumption) ?_
                  rotate_left 1
                  focus (intro wq hSw; (try dsimp only at hSw); obtain ⟨s0, s1, s2, s3, s4, s5, s6, s7, s8⟩ := hSw; go_simp; (try with_reducible rfl); done)
                  try simp only [List.getElem_toArray, List.getElem_cons_zero, List.getElem_cons_succ, Act.put, List.setIfInBounds_toArray, List.set_cons_zero, List.set_cons_succ]
                  refine wpAnyH_take (i := 1) (oi := _) (v := ?_) rfl (by kernel_rfl) (by kernel_rfl) (by kernel_rfl) (fun _ _ _ h => h) (Or.inl ⟨by kernel_rfl, ?_⟩) (by assumption) ?_
                  rotate_left 1
                  focus (intro wq hSw; (try dsimp only at hSw); obtain ⟨s0, s1, s2, s3, s4, s5, s6, s7, s8⟩ := hSw; go_simp; (try with_reducible rfl); done)
                  try simp only [List.getElem_toArray, List.getElem_cons_zero, List.getElem_cons_succ, Act.put, List.setIfInBounds_toArray, List.set_cons_zero, List.set_cons_succ]
                  refine wpAnyH_ready (rs := [2]) (by kernel_rfl) (by simp) ?_
                  refine AllReadyH.cons (o := _) rfl (fun K hK => ?_) AllReadyH.nil
                  rw [if_pos (by kernel_rfl)]
                  go_simp
                  (go_at_call 18; (with_reducible refine (HSM.out _ hHeld.2.2.2.2.2.2.2.2.out.a.at_ hHeld.2.2.2.2.2.2.2.2.out.b.at_).mono ?_); rintro e z1 ⟨rfl, q⟩)
                  first | refine hK.out _ _ ?_ (fun hHeld => ?_) | (go_wp2_with fail; refine hK.out _ _ ?_ (fun hHeld => ?_))
                  · exact HS.out _ (hHeld.2.2.2.2.2.2.2.2.out.keep q)
                  clear hK K
                  try simp only [List.getElem_toArray, List.getElem_cons_zero, List.getElem_cons_succ, Act.put, List.setIfInBounds_toArray, List.set_cons_zero, List.set_cons_succ]
                  refine wpAnyH_take (i := 3) (oi := _) (v := ?_) rfl (by kernel_rfl) (by kernel_rfl) (by kernel_rfl) (fun _ _ _ h => h) (Or.inl ⟨by kernel_rfl, ?_⟩) (by assumption) ?_
                  rotate_left 1
                  focus (intro wq hSw; (try dsimp only at hSw); obtain ⟨s0, s1, s2, s3, s4, s5, s6, s7, s8⟩ := hSw; go_simp; (try with_reducible rfl); done)
                  try simp only [List.getElem_toArray, List.getElem_cons_zero, List.getElem_cons_succ, Act.put, List.setIfInBounds_toArray, List.set_cons_zero, List.set_cons_succ]
                  refine wpAnyH_take (i := 4) (oi := _) (v := ?_) rfl (by kernel_rfl) (by kernel_rfl) (by kernel_rfl) (fun _ _ _ h => h) (Or.inl ⟨by kernel_rfl, ?_⟩) (by assumption) ?_
                  rotate_left 1
                  focus (intro wq hSw; (try dsimp only at hSw); obtain ⟨s0, s1, s2, s3, s4, s5, s6, s7, s8⟩ := hSw; go_simp; (try with_reducible rfl); done)
                  try simp only [List.getElem_toArray, List.getElem_cons_zero, List.getElem_cons_succ, Act.put, List.setIfInBounds_toArray, List.set_cons_zero, List.set_cons_succ]
                  refine wpAnyH_take (i := 6) (oi := _) (v := ?_) rfl (by kernel_rfl) (by kernel_rfl) (by kernel_rfl) (fun _ _ _ h => h) (Or.inl ⟨by kernel_rfl, ?_⟩) (by assumption) ?_
                  rotate_left 1
                  focus (intro wq hSw; (try dsimp only at hSw); obtain ⟨s0, s1, s2, s3, s4, s5, s6, s7, s8⟩ := hSw; go_simp; (try with_reducible rfl); done)
                  try simp only [List.getElem_toArray, List.getElem_cons_zero, List.getElem_cons_succ, Act.put, List.setIfInBounds_toArray, List.set_cons_zero, List.set_cons_succ]
                  refine wpAnyH_ready (rs := [5]) (by kernel_rfl) (by simp) ?_
                  refine AllReadyH.cons (o := _) rfl (fun K hK => ?_) AllReadyH.nil
                  rw [if_pos (by kernel_rfl)]
                  go_simp
                  (go_at_call 11; (with_reducible refine (D1.out _ hHeld.2.2.2.2.2.2.2.2.out.a.at_).mono ?_); rintro e z2 ⟨p3, n3, c3, l3, k3, o3, m3, j3, g3, s3, rfl, HA, q⟩)
                  first | refine hK.out _ _ ?_ (fun hHeld => ?_) | (go_wp2_with fail; refine hK.out _ _ ?_ (fun hHeld => ?_))
                  · exact HS.out _ (hHeld.2.2.2.2.2.2.2.2.out.keep q)
                  clear hK K
                  try simp only [List.getElem_toArray, List.getElem_cons_zero, List.getElem_cons_succ, Act.put, List.setIfInBounds_toArray, List.set_cons_zero, List.set_cons_succ]
                  refine wpAnyH_ready (rs := [7]) (by kernel_rfl) (by simp) ?_
                  refine AllReadyH.cons (o := _) rfl (fun K hK => ?_) AllReadyH.nil
                  rw [if_pos (by kernel_rfl)]
                  go_simp
                  (go_at_call 11; (with_reducible refine (D2.out _ hHeld.2.2.2.2.2.2.2.2.out.b.at_).mono ?_); rintro e z3 ⟨p4, n4, c4, l4, k4, o4, m4, j4, g4, s4, rfl, HB, q⟩; have HA := Lib.hid (⟨HA.out.1, HA.out.2.keep q⟩ : _ ∧ _))
                  first | refine hK.out _ _ ?_ (fun hHeld => ?_) | (go_wp2_with fail; refine hK.out _ _ ?_ (fun hHeld => ?_))
                  · exact HS.out _ (hHeld.2.2.2.2.2.2.2.2.out.keep q)
                  clear hK K
                  try simp only [List.getElem_toArray, List.getElem_cons_zero, List.getElem_cons_succ, Act.put, List.setIfInBounds_toArray, List.set_cons_zero, List.set_cons_succ]
                  refine wpAnyH_ready (rs := [8]) (by kernel_rfl) (by simp) ?_
                  refine AllReadyH.cons (o := _) rfl (fun K hK => ?_) AllReadyH.nil
                  rw [if_pos (by kernel_rfl)]
                  go_simp
                  (go_at_call 13; (with_reducible refine (alikeForms_any ⟨p3, n3, c3, l3, k3, o3, m3, j3, g3, s3⟩ ⟨p4, n4, c4, l4, k4, o4, m4, j4, g4, s4⟩ _ HA.out.2 HB.out.2 true ⟨fun _ => (canEq_same HA.out.1 HB.out.1).1 HCE.out, fun _ => rfl⟩).mono ?_); rintro e z4 ⟨rfl, q⟩)
                  first | refine hK.out _ _ ?_ (fun hHeld => ?_) | (go_wp2_with fail; refine hK.out _ _ ?_ (fun hHeld => ?_))
                  · exact HS.out _ (hHeld.2.2.2.2.2.2.2.2.out.keep q)
                  clear hK K
                  try simp only [List.getElem_toArray, List.getElem_cons_zero, List.getElem_cons_succ, Act.put, List.setIfInBounds_toArray, List.set_cons_zero, List.set_cons_succ]
                  refine wpAnyH_take (i := 9) (oi := _) (v := ?_) rfl (by kernel_rfl) (by kernel_rfl) (by kernel_rfl) (fun _ _ _ h => h) (Or.inl ⟨by kernel_rfl, ?_⟩) (by assumption) ?_
                  rotate_left 1
                  focus (intro wq hSw; (try dsimp only at hSw); obtain ⟨s0, s1, s2, s3, s4, s5, s6, s7, s8⟩ := hSw; go_simp; (try with_reducible rfl); done)
                  try simp only [List.getElem_toArray, List.getElem_cons_zero, List.getElem_cons_succ, Act.put, List.setIfInBounds_toArray, List.set_cons_zero, List.set_cons_succ]
                  refine wpAnyH_take (i := 10) (oi := _) (v := ?_) rfl (by kernel_rfl) (by kernel_rfl) (by kernel_rfl) (fun _ _ _ h => h) (Or.inl ⟨by kernel_rfl, ?_⟩) (by assumption) ?_
                  rotate_left 1
                  focus (intro wq hSw; (try dsimp only at hSw); obtain ⟨s0, s1, s2, s3, s4, s5, s6, s7, s8⟩ := hSw; go_simp; (try with_reducible rfl); done)
                  try simp only [List.getElem_toArray, List.getElem_cons_zero, List.getElem_cons_succ, Act.put, List.setIfInBounds_toArray, List.set_cons_zero, List.set_cons_succ]
                  refine wpAnyH_ready (rs := [11]) (by kernel_rfl) (by simp) ?_
                  refine AllReadyH.cons (o := _) rfl (fun K hK => ?_) AllReadyH.nil
                  rw [if_pos (by kernel_rfl)]
                  go_simp
                  (go_at_call 9; (with_reducible refine (HAW.out _).mono ?_); rintro e z5 ⟨rfl, q⟩)
                  first | refine hK.out _ _ ?_ (fun hHeld => ?_) | (go_wp2_with fail; refine hK.out _ _ ?_ (fun hHeld => ?_))
                  · exact HS.out _ (hHeld.2.2.2.2.2.2.2.2.out.keep q)
                  clear hK K
                  try simp only [List.getElem_toArray, List.getElem_cons_zero, List.getElem_cons_succ, Act.put, List.setIfInBounds_toArray, List.set_cons_zero, List.set_cons_succ]
                  refine wpAnyH_take (i := 12) (oi := _) (v := ?_) rfl (by kernel_rfl) (by kernel_rfl) (by kernel_rfl) (fun _ _ _ h => h) (Or.inl ⟨by kernel_rfl, ?_⟩) (by assumption) ?_
                  rotate_left 1
                  focus (intro wq hSw; (try dsimp only at hSw); obtain ⟨s0, s1, s2, s3, s4, s5, s6, s7, s8⟩ := hSw; go_simp; (try with_reducible rfl); done)
                  try simp only [List.getElem_toArray, List.getElem_cons_zero, List.getElem_cons_succ, Act.put, List.setIfInBounds_toArray, List.set_cons_zero, List.set_cons_succ]
                  refine wpAnyH_take (i := 13) (oi := _) (v := ?_) rfl (by kernel_rfl) (by kernel_rfl) (by kernel_rfl) (fun _ _ _ h => h) (Or.inl ⟨by kernel_rfl, ?_⟩) (by assumption) ?_
                  rotate_left 1
                  focus (intro wq hSw; (try dsimp only at hSw); obtain ⟨s0, s1, s2, s3, s4, s5, s6, s7, s8⟩ := hSw; go_simp; (try with_reducible rfl); done)
                  try simp only [List.getElem_toArray, List.getElem_cons_zero, List.getElem_cons_succ, Act.put, List.setIfInBounds_toArray, List.set_cons_zero, List.set_cons_succ]
                  refine wpAnyH_done (by kernel_rfl) ?_ _
                  go_wp2
                  go_returns
                  exact ⟨rfl, hHeld.2.2.2.2.2.2.2.2.out.a.bw⟩

end Go.Proofs.Ytkhnoikdfelheaa
