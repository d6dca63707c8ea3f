/- Y3 in one. -/
import Derived.Test.YtmjapbjjfhmohaaKaj
namespace Go.Proofs.Ytmjapbjjfhmohaa
set_option linter.unusedVariables false
set_option linter.unusedSimpArgs false
open Go.ChangeShapes Go.WideShapes Go.ChangeAt Go.RowKit Go.Shelf
set_option maxRecDepth 8000 in
set_option maxHeartbeats 8000000 in
theorem twice_all (F : Fv) (m0 n0 k0 : Int) (w : World) (hF : F.At w) (hm1 : 0 ≤ m0) (hm2 : m0 ≤ 255) (hn1 : 0 ≤ n0) (hn2 : n0 ≤ 255) (hk1 : -128 ≤ k0) (hk2 : k0 ≤ 127) :
    Calls Try.prog 5 #[F.v, .int .u8 m0, .int .u8 n0, .int .i8 k0] w fun e w' => e = .returned (.bool true) ∧ Below w.heap.size w w' := by
  have HAW := Lib.hid (fun W => awake_any W)
  obtain ⟨r, hr⟩ : ∃ r : Bool, r = true ↔ F.Small ∧ F.Rt := by classical exact ⟨decide _, decide_eq_true_iff⟩
  have HRI := Lib.hid hr
  have CR := Lib.hid (fun W (h : F.At W) => right_any2 F W h r hr)
  have HLC := Lib.hid hF.core.len
  have HLO := Lib.hid hF.odd.len
  obtain ⟨P, N, co, cn, cc, oo, on, oc, cs, os⟩ := F
  have HLC : Hid (cs.length = cn) := HLC
  have HLO : Hid (os.length = on) := HLO
  have CR : Hid (∀ W, Fv.At ⟨P, N, co, cn, cc, oo, on, oc, cs, os⟩ W → Calls Try.prog 6 #[.agg #[.int .i64 P, .int .i64 N, .slice co cn cc, .slice oo on oc]] W fun e w' => e = .returned (.bool r) ∧ Below W.heap.size W w') := CR
  obtain ⟨b, hb⟩ : ∃ b, w.heap.size = b := ⟨_, rfl⟩
  obtain ⟨wb, hwb⟩ : ∃ wb, w.alloc (.cells #[.int .i64 P, .int .i64 N, .slice co cn cc, .slice oo on oc] 25) = wb := ⟨_, rfl⟩
  have HX : Hid (Fbox ⟨P, N, co, cn, cc, oo, on, oc, cs, os⟩ w wb b) := Lib.hid (by rw [← hwb, ← hb]; exact fbox_new hF)
  clear hF hr
  show Calls Try.prog 5 #[.agg #[.int .i64 P, .int .i64 N, .slice co cn cc, .slice oo on oc], .int .u8 m0, .int .u8 n0, .int .i8 k0] w _
  go_enter Try.func5, Try.ntmps5
  go_upto_region 1 with fail
  clear hwb hb
  have e0 := HX.out.c0
  have e1 := HX.out.c1
  have e2 := HX.out.c2
  have e3 := HX.out.c3
  go_wp2_with fail
  (with_reducible refine (CR.out _ HX.out.at_).mono ?_)
  rintro e w1 ⟨rfl, q⟩
  have HX := Lib.hid (HX.out.keep q)
  clear q e0 e1 e2 e3 CR
  cases r
  · go_wp2_with fail
    (with_reducible refine (HAW.out _).mono ?_)
    rintro e wz ⟨rfl, qz⟩
    have HZ := Lib.hid (HX.out.bw.trans (qz.mono HX.out.bw.size))
    clear qz
    go_wp2
    go_returns
    exact ⟨rfl, HZ.out⟩
  · have HSR := Lib.hid (HRI.out.1 rfl)
    clear HRI
    obtain ⟨A, hA, A1, A2⟩ : ∃ A : Nat, 1 + m0 % 12 = (A : Int) ∧ 1 ≤ A ∧ A ≤ 12 := ⟨(1 + m0 % 12).toNat, by omega, by omega, by omega⟩
    obtain ⟨D, hD, D1, D2⟩ : ∃ D : Nat, 1 + n0 % 12 = (D : Int) ∧ 1 ≤ D ∧ D ≤ 12 := ⟨(1 + n0 % 12).toNat, by omega, by omega, by omega⟩
    obtain ⟨C, hC, C1, C2⟩ : ∃ C : Int, k0.tmod 20 = C ∧ -20 ≤ C ∧ C ≤ 20 := ⟨_, rfl, by have := Int.lt_tmod_of_pos k0 (show (0 : Int) < 20 by decide); omega, by have := Int.tmod_lt_of_pos k0 (show (0 : Int) < 20 by decide); omega⟩
    have HHA := Lib.hid hA
    have HHD := Lib.hid hD
    have HHC := Lib.hid hC
    clear hA hD hC
    go_upto_region 4 with fail
    rw [HHA.out, HHD.out, HHC.out]
    have w64C : Hid (wrap64 C = C) := Lib.hid (by unfold wrap64; omega)
    try rw [w64C.out]
    clear HHA HHD HHC
    obtain ⟨a1, k1, hp1⟩ := pa_ex (F := ⟨P, N, co, cn, cc, oo, on, oc, cs, os⟩) (m := A) HSR.out.2.meas HLC.out (by omega)
    have P1x := Lib.hid hp1
    obtain ⟨a0, kk0, hp0, ok0, o1, o2, o3, o4, o5, o6⟩ := one_ok HSR.out.1 HSR.out.2 HLC.out HLO.out
    have P0x := Lib.hid hp0
    have HO0 := Lib.hid ok0
    have HO1 := Lib.hid (And.intro o1 (And.intro o2 (And.intro o3 (And.intro o4 (And.intro o5 o6)))))
    clear hp1 hp0 ok0 o1 o2 o3 o4 o5 o6
    have CX : Hid (∀ W, Fv.At ⟨P, N, co, cn, cc, oo, on, oc, cs, os⟩ W → Calls Try.prog 8 #[.agg #[.int .i64 P, .int .i64 N, .slice co cn cc, .slice oo on oc], .int .i64 ((A : Int))] W fun e w' => GpTo ⟨P, N, co, cn, cc, oo, on, oc, cs, os⟩ (A) a1 k1 W e w') := Lib.hid (fun W h => group_to ⟨P, N, co, cn, cc, oo, on, oc, cs, os⟩ (A) a1 k1 W h HSR.out.2 HSR.out.1.few (by omega) (by omega) P1x.out)
    have C1x : Hid (∀ W, Fv.At ⟨P, N, co, cn, cc, oo, on, oc, cs, os⟩ W → Calls Try.prog 8 #[.agg #[.int .i64 P, .int .i64 N, .slice co cn cc, .slice oo on oc], .int .i64 1] W fun e w' => ∃ P9 N9 co9 cn9 cc9 oo9 on9 oc9 cs9 os9, e = .returned (.tuple #[.agg #[.int .i64 P9, .int .i64 N9, .slice co9 cn9 cc9, .slice oo9 on9 oc9], .int .i64 0]) ∧ Hid (Fv.At ⟨P9, N9, co9, cn9, cc9, oo9, on9, oc9, cs9, os9⟩ w') ∧ Hid (GpG ⟨P, N, co, cn, cc, oo, on, oc, cs, os⟩ 1 a0 kk0 ⟨P9, N9, co9, cn9, cc9, oo9, on9, oc9, cs9, os9⟩) ∧ Hid (Below W.heap.size W w')) := Lib.hid (fun W h => one_to ⟨P, N, co, cn, cc, oo, on, oc, cs, os⟩ a0 kk0 W h HSR.out.2 HSR.out.1 P0x.out HO0.out HO1.out)
    have e0 := HX.out.c0
    have e1 := HX.out.c1
    have e2 := HX.out.c2
    have e3 := HX.out.c3
    go_wp2_with fail
    (try rw [w64C.out])
    (with_reducible refine (CX.out _ HX.out.at_).mono ?_)
    rintro e w2 ⟨⟨P1, N1, co1, cn1, cc1, oo1, on1, oc1, cs1, os1, kw1, rfl, ha, hg1⟩, q⟩
    have HX := Lib.hid (HX.out.keep q.out)
    have HA := ha
    clear q ha e0 e1 e2 e3 CX
    obtain ⟨b1, hb⟩ : ∃ z, w2.heap.size = z := ⟨_, rfl⟩
    obtain ⟨w3, hw⟩ : ∃ z, w2.alloc (.cells #[.int .i64 P1, .int .i64 N1, .slice co1 cn1 cc1, .slice oo1 on1 oc1] 25) = z := ⟨_, rfl⟩
    have q : Below w2.heap.size w2 w3 := by rw [← hw]; exact (Below.refl _ w2).alloc (Nat.le_refl _) _
    have X1 : Hid (Fbox ⟨P1, N1, co1, cn1, cc1, oo1, on1, oc1, cs1, os1⟩ w w3 b1) := Lib.hid (by rw [← hw]; exact fbox_in HA.out hb HX.out.bw)
    have HX := Lib.hid (HX.out.keep q)
    have HWX := Lib.hid hw
    have HBX := Lib.hid hb
    clear hw hb HA q
    go_upto_region 5 with fail
    rw [HWX.out]
    try rw [HBX.out]
    clear HWX HBX
    have e0 := HX.out.c0
    have e1 := HX.out.c1
    have e2 := HX.out.c2
    have e3 := HX.out.c3
    go_wp2_with fail
    (with_reducible refine (C1x.out _ HX.out.at_).mono ?_)
    rintro e w4 ⟨P2, N2, co2, cn2, cc2, oo2, on2, oc2, cs2, os2, rfl, ha, hg2, q⟩
    have HX := Lib.hid (HX.out.keep q.out)
    have X1 := Lib.hid (X1.out.keep q.out)
    have HA := ha
    have HG2 := hg2
    clear q ha hg2 e0 e1 e2 e3 C1x
    obtain ⟨b2, hb⟩ : ∃ z, w4.heap.size = z := ⟨_, rfl⟩
    obtain ⟨w5, hw⟩ : ∃ z, w4.alloc (.cells #[.int .i64 P2, .int .i64 N2, .slice co2 cn2 cc2, .slice oo2 on2 oc2] 25) = z := ⟨_, rfl⟩
    have q : Below w4.heap.size w4 w5 := by rw [← hw]; exact (Below.refl _ w4).alloc (Nat.le_refl _) _
    have HT : Hid (Three w w5 b b2 b1 ⟨P, N, co, cn, cc, oo, on, oc, cs, os⟩ ⟨P2, N2, co2, cn2, cc2, oo2, on2, oc2, cs2, os2⟩ ⟨P1, N1, co1, cn1, cc1, oo1, on1, oc1, cs1, os1⟩) := Lib.hid (by rw [← hw]; exact ⟨HX.out.keep ((Below.refl _ w4).alloc (Nat.le_refl _) _), fbox_in HA.out hb HX.out.bw, X1.out.keep ((Below.refl _ w4).alloc (Nat.le_refl _) _)⟩)
    have HWX := Lib.hid hw
    have HBX := Lib.hid hb
    clear hw hb HA q HX X1
    have D1x : Hid (∀ W, Fv.At ⟨P, N, co, cn, cc, oo, on, oc, cs, os⟩ W → Calls Try.prog 16 #[.agg #[.int .i64 P, .int .i64 N, .slice co cn cc, .slice oo on oc]] W fun e w' => ∃ p n c l k o m j g s, e = .returned (.agg #[.int .i64 p, .int .i64 n, .slice c l k, .slice o m j]) ∧ Hid (IsCan ⟨P, N, co, cn, cc, oo, on, oc, cs, os⟩ ⟨p, n, c, l, k, o, m, j, g, s⟩ ∧ Fv.At ⟨p, n, c, l, k, o, m, j, g, s⟩ w') ∧ Below W.heap.size W w') := Lib.hid (fun W h => (form_can ⟨P, N, co, cn, cc, oo, on, oc, cs, os⟩ W h (HSR.out.2.okm HSR.out.1.mid) HSR.out.2 (fun W h => right_small ⟨P, N, co, cn, cc, oo, on, oc, cs, os⟩ W h HSR.out.1 true ⟨fun _ => HSR.out.2, fun _ => rfl⟩)).mono (by
      rintro e w' ⟨⟨p, n, c, l, k, o, m, j, g, s⟩, rfl, hc, ho, hb⟩
      exact ⟨p, n, c, l, k, o, m, j, g, s, rfl, Lib.hid ⟨hc, ho.at_⟩, hb⟩))
    have HSB : Hid (∀ M : Fv, IsCan ⟨P, N, co, cn, cc, oo, on, oc, cs, os⟩ M → SameF ⟨P2, N2, co2, cn2, cc2, oo2, on2, oc2, cs2, os2⟩ M) := Lib.hid (fun M c => one_same HG2.out HO1.out.1 HO1.out.2.1 HO1.out.2.2.2.2.1 HO1.out.2.2.2.2.2 c)
    have HS : Hid (∀ W, Three w W b b2 b1 ⟨P, N, co, cn, cc, oo, on, oc, cs, os⟩ ⟨P2, N2, co2, cn2, cc2, oo2, on2, oc2, cs2, os2⟩ ⟨P1, N1, co1, cn1, cc1, oo1, on1, oc1, cs1, os1⟩ → W.cell? ⟨b, 0, none⟩ = some (.int .i64 P) ∧ W.cell? ⟨b, 1, none⟩ = some (.int .i64 N) ∧ W.cell? ⟨b, 2, none⟩ = some (.slice co cn cc) ∧ W.cell? ⟨b, 3, none⟩ = some (.slice oo on oc) ∧ W.cell? ⟨b2, 0, none⟩ = some (.int .i64 P2) ∧ W.cell? ⟨b2, 1, none⟩ = some (.int .i64 N2) ∧ W.cell? ⟨b2, 2, none⟩ = some (.slice co2 cn2 cc2) ∧ W.cell? ⟨b2, 3, none⟩ = some (.slice oo2 on2 oc2) ∧ Hid (Three w W b b2 b1 ⟨P, N, co, cn, cc, oo, on, oc, cs, os⟩ ⟨P2, N2, co2, cn2, cc2, oo2, on2, oc2, cs2, os2⟩ ⟨P1, N1, co1, cn1, cc1, oo1, on1, oc1, cs1, os1⟩)) := Lib.hid (fun W h => ⟨h.a.c0, h.a.c1, h.a.c2, h.a.c3, h.b.c0, h.b.c1, h.b.c2, h.b.c3, Lib.hid h⟩)
    clear HG2
    go_upto_region 6 with fail
    rw [HWX.out]
    try rw [HBX.out]
    clear HWX HBX
    refine wp_region_held_drew (S := (fun W => W.cell? ⟨b, 0, none⟩ = some (.int .i64 P) ∧ W.cell? ⟨b, 1, none⟩ = some (.int .i64 N) ∧ W.cell? ⟨b, 2, none⟩ = some (.slice co cn cc) ∧ W.cell? ⟨b, 3, none⟩ = some (.slice oo on oc) ∧ W.cell? ⟨b2, 0, none⟩ = some (.int .i64 P2) ∧ W.cell? ⟨b2, 1, none⟩ = some (.int .i64 N2) ∧ W.cell? ⟨b2, 2, none⟩ = some (.slice co2 cn2 cc2) ∧ W.cell? ⟨b2, 3, none⟩ = some (.slice oo2 on2 oc2) ∧ Hid (Three w W b b2 b1 ⟨P, N, co, cn, cc, oo, on, oc, cs, os⟩ ⟨P2, N2, co2, cn2, cc2, oo2, on2, oc2, cs2, os2⟩ ⟨P1, N1, co1, cn1, cc1, oo1, on1, oc1, cs1, os1⟩))) (by kernel_rfl) ?_ (fun hHeld => ?_)
    · exact HS.out _ (HT.out.keep (Below.refl _ _).drew)
    refine wpAnyH_take (i := 0) (oi := _) (v := ?_) rfl (by kernel_rfl) (by kernel_rfl) (by kernel_rfl) (fun _ _ _ h => h) (Or.inl ⟨by kernel_rfl, ?_⟩) (by assumption) ?_
    rotate_left 1
    focus (intro wq hSw; (try dsimp only at hSw); obtain ⟨s0, s1, s2, s3, s4, s5, s6, s7, s8⟩ := hSw; go_simp; (try with_reducible rfl); done)
    try simp only [List.getElem_toArray, List.getElem_cons_zero, List.getElem_cons_succ, Act.put, List.setIfInBounds_toArray, List.set_cons_zero, List.set_cons_succ]
    refine wpAnyH_take (i := 1) (oi := _) (v := ?_) rfl (by kernel_rfl) (by kernel_rfl) (by kernel_rfl) (fun _ _ _ h => h) (Or.inl ⟨by kernel_rfl, ?_⟩) (by assumption) ?_
    rotate_left 1
    focus (intro wq hSw; (try dsimp only at hSw); obtain ⟨s0, s1, s2, s3, s4, s5, s6, s7, s8⟩ := hSw; go_simp; (try with_reducible rfl); done)
    try simp only [List.getElem_toArray, List.getElem_cons_zero, List.getElem_cons_succ, Act.put, List.setIfInBounds_toArray, List.set_cons_zero, List.set_cons_succ]
    refine wpAnyH_take (i := 2) (oi := _) (v := ?_) rfl (by kernel_rfl) (by kernel_rfl) (by kernel_rfl) (fun _ _ _ h => h) (Or.inl ⟨by kernel_rfl, ?_⟩) (by assumption) ?_
    rotate_left 1
    focus (intro wq hSw; (try dsimp only at hSw); obtain ⟨s0, s1, s2, s3, s4, s5, s6, s7, s8⟩ := hSw; go_simp; (try with_reducible rfl); done)
    try simp only [List.getElem_toArray, List.getElem_cons_zero, List.getElem_cons_succ, Act.put, List.setIfInBounds_toArray, List.set_cons_zero, List.set_cons_succ]
    refine wpAnyH_take (i := 3) (oi := _) (v := ?_) rfl (by kernel_rfl) (by kernel_rfl) (by kernel_rfl) (fun _ _ _ h => h) (Or.inl ⟨by kernel_rfl, ?_⟩) (by assumption) ?_
    rotate_left 1
    focus (intro wq hSw; (try dsimp only at hSw); obtain ⟨s0, s1, s2, s3, s4, s5, s6, s7, s8⟩ := hSw; go_simp; (try with_reducible rfl); done)
    try simp only [List.getElem_toArray, List.getElem_cons_zero, List.getElem_cons_succ, Act.put, List.setIfInBounds_toArray, List.set_cons_zero, List.set_cons_succ]
    refine wpAnyH_take (i := 4) (oi := _) (v := ?_) rfl (by kernel_rfl) (by kernel_rfl) (by kernel_rfl) (fun _ _ _ h => h) (Or.inl ⟨by kernel_rfl, ?_⟩) (by assumption) ?_
    rotate_left 1
    focus (intro wq hSw; (try dsimp only at hSw); obtain ⟨s0, s1, s2, s3, s4, s5, s6, s7, s8⟩ := hSw; go_simp; (try with_reducible rfl); done)
    try simp only [List.getElem_toArray, List.getElem_cons_zero, List.getElem_cons_succ, Act.put, List.setIfInBounds_toArray, List.set_cons_zero, List.set_cons_succ]
    refine wpAnyH_ready (rs := [5]) (by kernel_rfl) (by simp) ?_
    refine AllReadyH.cons (o := _) rfl (fun K hK => ?_) AllReadyH.nil
    rw [if_pos (by kernel_rfl)]
    go_simp
    (go_at_call 16; (with_reducible refine (D1x.out _ hHeld.2.2.2.2.2.2.2.2.out.a.at_).mono ?_); rintro e z2 ⟨p4, n4, c4, l4, k4, o4, m4, j4, g4, s4, rfl, HA, q⟩)
    first | refine hK.out _ _ ?_ (fun hHeld => ?_) | (go_wp2_with fail; refine hK.out _ _ ?_ (fun hHeld => ?_))
    · exact HS.out _ (hHeld.2.2.2.2.2.2.2.2.out.keep q)
    clear hK K
    try simp only [List.getElem_toArray, List.getElem_cons_zero, List.getElem_cons_succ, Act.put, List.setIfInBounds_toArray, List.set_cons_zero, List.set_cons_succ]
    refine wpAnyH_ready (rs := [6]) (by kernel_rfl) (by simp) ?_
    refine AllReadyH.cons (o := _) rfl (fun K hK => ?_) AllReadyH.nil
    rw [if_pos (by kernel_rfl)]
    go_simp
    (go_at_call 9; (with_reducible refine (alikeForms_any ⟨P2, N2, co2, cn2, cc2, oo2, on2, oc2, cs2, os2⟩ ⟨p4, n4, c4, l4, k4, o4, m4, j4, g4, s4⟩ _ hHeld.2.2.2.2.2.2.2.2.out.b.at_ HA.out.2 true ⟨fun _ => HSB.out _ HA.out.1, fun _ => rfl⟩).mono ?_); rintro e z4 ⟨rfl, q⟩)
    first | refine hK.out _ _ ?_ (fun hHeld => ?_) | (go_wp2_with fail; refine hK.out _ _ ?_ (fun hHeld => ?_))
    · exact HS.out _ (hHeld.2.2.2.2.2.2.2.2.out.keep q)
    clear hK K
    try simp only [List.getElem_toArray, List.getElem_cons_zero, List.getElem_cons_succ, Act.put, List.setIfInBounds_toArray, List.set_cons_zero, List.set_cons_succ]
    refine wpAnyH_take (i := 7) (oi := _) (v := ?_) rfl (by kernel_rfl) (by kernel_rfl) (by kernel_rfl) (fun _ _ _ h => h) (Or.inl ⟨by kernel_rfl, ?_⟩) (by assumption) ?_
    rotate_left 1
    focus (intro wq hSw; (try dsimp only at hSw); obtain ⟨s0, s1, s2, s3, s4, s5, s6, s7, s8⟩ := hSw; go_simp; (try with_reducible rfl); done)
    try simp only [List.getElem_toArray, List.getElem_cons_zero, List.getElem_cons_succ, Act.put, List.setIfInBounds_toArray, List.set_cons_zero, List.set_cons_succ]
    refine wpAnyH_take (i := 8) (oi := _) (v := ?_) rfl (by kernel_rfl) (by kernel_rfl) (by kernel_rfl) (fun _ _ _ h => h) (Or.inl ⟨by kernel_rfl, ?_⟩) (by assumption) ?_
    rotate_left 1
    focus (intro wq hSw; (try dsimp only at hSw); obtain ⟨s0, s1, s2, s3, s4, s5, s6, s7, s8⟩ := hSw; go_simp; (try with_reducible rfl); done)
    try simp only [List.getElem_toArray, List.getElem_cons_zero, List.getElem_cons_succ, Act.put, List.setIfInBounds_toArray, List.set_cons_zero, List.set_cons_succ]
    refine wpAnyH_done (by kernel_rfl) ?_ _
    have HTT := Lib.hid hHeld.2.2.2.2.2.2.2.2.out
    clear hHeld
    have HX := Lib.hid HTT.out.a
    have X1 := Lib.hid HTT.out.c
    clear HTT HT HS HSB D1x
    rcases hg1 with ⟨rfl, hg⟩ | hk
    · skip
      have HG1 := Lib.hid hg.out
      have HFR := Lib.hid (gpg_few HG1.out P1x.out HSR.out.1 HLO.out A2 X1.out.at_)
      have HL1 : Hid (cs1.length = cn1) := Lib.hid X1.out.at_.core.len
      have HL2 : Hid (os1.length = on1) := Lib.hid X1.out.at_.odd.len
      obtain ⟨a2, k2, hp2⟩ := pa_ex (F := ⟨P1, N1, co1, cn1, cc1, oo1, on1, oc1, cs1, os1⟩) (m := D) HFR.out.2.meas HL1.out (by omega)
      have P2x := Lib.hid hp2
      have hAD1 : 0 ≤ (A : Int) * (D : Int) := Int.mul_nonneg (by omega) (by omega)
      have hADn : A * D ≤ 12 * 12 := Nat.mul_le_mul A2 D2
      have hADp : 0 < A * D := Nat.mul_pos A1 D1
      have hAD2 : (A : Int) * (D : Int) ≤ 144 := by rw [← Int.natCast_mul]; omega
      obtain ⟨a3, k3, hp3⟩ := pa_ex (F := ⟨P, N, co, cn, cc, oo, on, oc, cs, os⟩) (m := A * D) HSR.out.2.meas HLC.out hADp
      have P3x := Lib.hid hp3
      have hAC1 : -240 ≤ (A : Int) * C := by
        have h1 : (A : Int) * (-20) ≤ (A : Int) * C := Int.mul_le_mul_of_nonneg_left C1 (by omega)
        omega
      have hAC2 : (A : Int) * C ≤ 240 := by
        have h1 : (A : Int) * C ≤ (A : Int) * 20 := Int.mul_le_mul_of_nonneg_left C2 (by omega)
        omega
      clear hg hp2 hp3
      have CY : Hid (∀ W, Fv.At ⟨P1, N1, co1, cn1, cc1, oo1, on1, oc1, cs1, os1⟩ W → Calls Try.prog 8 #[.agg #[.int .i64 P1, .int .i64 N1, .slice co1 cn1 cc1, .slice oo1 on1 oc1], .int .i64 ((D : Int))] W fun e w' => GpTo ⟨P1, N1, co1, cn1, cc1, oo1, on1, oc1, cs1, os1⟩ (D) a2 k2 W e w') := Lib.hid (fun W h => group_to ⟨P1, N1, co1, cn1, cc1, oo1, on1, oc1, cs1, os1⟩ (D) a2 k2 W h HFR.out.2 HFR.out.1 (by omega) (by omega) P2x.out)
      have CZ : Hid (∀ W, Fv.At ⟨P, N, co, cn, cc, oo, on, oc, cs, os⟩ W → Calls Try.prog 8 #[.agg #[.int .i64 P, .int .i64 N, .slice co cn cc, .slice oo on oc], .int .i64 ((A : Int) * (D : Int))] W fun e w' => GpTo ⟨P, N, co, cn, cc, oo, on, oc, cs, os⟩ (A * D) a3 k3 W e w') := Lib.hid (fun W h => by
        have z := group_to ⟨P, N, co, cn, cc, oo, on, oc, cs, os⟩ (A * D) a3 k3 W h HSR.out.2 HSR.out.1.few (by omega) (by omega) P3x.out
        rw [Int.natCast_mul] at z
        exact z)
      have CP : Hid (∀ W, Fv.At ⟨P1, N1, co1, cn1, cc1, oo1, on1, oc1, cs1, os1⟩ W → Calls Try.prog 12 #[.agg #[.int .i64 P1, .int .i64 N1, .slice co1 cn1 cc1, .slice oo1 on1 oc1], .int .i64 (C)] W fun e w' => ShTo ⟨P1, N1, co1, cn1, cc1, oo1, on1, oc1, cs1, os1⟩ (C) W e w') := Lib.hid (fun W h => shift_to ⟨P1, N1, co1, cn1, cc1, oo1, on1, oc1, cs1, os1⟩ (C) W h HFR.out.2 HFR.out.1 (by omega) (by omega))
      have CQ : Hid (∀ W, Fv.At ⟨P, N, co, cn, cc, oo, on, oc, cs, os⟩ W → Calls Try.prog 12 #[.agg #[.int .i64 P, .int .i64 N, .slice co cn cc, .slice oo on oc], .int .i64 ((A : Int) * C)] W fun e w' => ShTo ⟨P, N, co, cn, cc, oo, on, oc, cs, os⟩ ((A : Int) * C) W e w') := Lib.hid (fun W h => shift_to ⟨P, N, co, cn, cc, oo, on, oc, cs, os⟩ ((A : Int) * C) W h HSR.out.2 HSR.out.1.few (by omega) (by omega))
      have e0 := X1.out.c0
      have e1 := X1.out.c1
      have e2 := X1.out.c2
      have e3 := X1.out.c3
      go_wp2_with fail
      (try rw [w64C.out])
      (with_reducible refine (CY.out _ X1.out.at_).mono ?_)
      rintro e w21 ⟨⟨P3, N3, co3, cn3, cc3, oo3, on3, oc3, cs3, os3, kw3, rfl, ha, hg3⟩, q⟩
      have HX := Lib.hid (HX.out.keep q.out)
      have X1 := Lib.hid (X1.out.keep q.out)
      have HA := ha
      clear q ha e0 e1 e2 e3 CY
      obtain ⟨b3, hb⟩ : ∃ z, w21.heap.size = z := ⟨_, rfl⟩
      obtain ⟨w22, hw⟩ : ∃ z, w21.alloc (.cells #[.int .i64 P3, .int .i64 N3, .slice co3 cn3 cc3, .slice oo3 on3 oc3] 25) = z := ⟨_, rfl⟩
      have q : Below w21.heap.size w21 w22 := by rw [← hw]; exact (Below.refl _ w21).alloc (Nat.le_refl _) _
      have X3 : Hid (Fbox ⟨P3, N3, co3, cn3, cc3, oo3, on3, oc3, cs3, os3⟩ w w22 b3) := Lib.hid (by rw [← hw]; exact fbox_in HA.out hb HX.out.bw)
      have HX := Lib.hid (HX.out.keep q)
      have X1 := Lib.hid (X1.out.keep q)
      have HWX := Lib.hid hw
      have HBX := Lib.hid hb
      clear hw hb HA q
      go_upto_region 11 with fail
      rw [HWX.out]
      try rw [HBX.out]
      clear HWX HBX
      have e0 := HX.out.c0
      have e1 := HX.out.c1
      have e2 := HX.out.c2
      have e3 := HX.out.c3
      go_wp2_with fail
      (try rw [w64C.out])
      (with_reducible refine (CZ.out _ HX.out.at_).mono ?_)
      rintro e w23 ⟨⟨P4, N4, co4, cn4, cc4, oo4, on4, oc4, cs4, os4, kw4, rfl, ha, hg4⟩, q⟩
      have HX := Lib.hid (HX.out.keep q.out)
      have X1 := Lib.hid (X1.out.keep q.out)
      have X3 := Lib.hid (X3.out.keep q.out)
      have HA := ha
      clear q ha e0 e1 e2 e3 CZ
      obtain ⟨b4, hb⟩ : ∃ z, w23.heap.size = z := ⟨_, rfl⟩
      obtain ⟨w24, hw⟩ : ∃ z, w23.alloc (.cells #[.int .i64 P4, .int .i64 N4, .slice co4 cn4 cc4, .slice oo4 on4 oc4] 25) = z := ⟨_, rfl⟩
      have q : Below w23.heap.size w23 w24 := by rw [← hw]; exact (Below.refl _ w23).alloc (Nat.le_refl _) _
      have X4 : Hid (Fbox ⟨P4, N4, co4, cn4, cc4, oo4, on4, oc4, cs4, os4⟩ w w24 b4) := Lib.hid (by rw [← hw]; exact fbox_in HA.out hb HX.out.bw)
      have HX := Lib.hid (HX.out.keep q)
      have X1 := Lib.hid (X1.out.keep q)
      have X3 := Lib.hid (X3.out.keep q)
      have HWX := Lib.hid hw
      have HBX := Lib.hid hb
      clear hw hb HA q
      go_upto_region 12 with fail
      rw [HWX.out]
      try rw [HBX.out]
      clear HWX HBX
      rcases hg3 with ⟨rfl, hg3⟩ | hk
      · rcases hg4 with ⟨rfl, hg4⟩ | hk
        · have HAL : Hid (∀ W, Fv.At ⟨P3, N3, co3, cn3, cc3, oo3, on3, oc3, cs3, os3⟩ W → Fv.At ⟨P4, N4, co4, cn4, cc4, oo4, on4, oc4, cs4, os4⟩ W → Calls Try.prog 9 #[.agg #[.int .i64 P3, .int .i64 N3, .slice co3 cn3 cc3, .slice oo3 on3 oc3], .agg #[.int .i64 P4, .int .i64 N4, .slice co4 cn4 cc4, .slice oo4 on4 oc4]] W fun e w' => e = .returned (.bool true) ∧ Below W.heap.size W w') := Lib.hid (fun W h k => alikeForms_any ⟨P3, N3, co3, cn3, cc3, oo3, on3, oc3, cs3, os3⟩ ⟨P4, N4, co4, cn4, cc4, oo4, on4, oc4, cs4, os4⟩ W h k true ⟨fun _ => two_sameG HG1.out P1x.out hg3.out P2x.out hg4.out P3x.out A1 D1 HLC.out X1.out.at_, fun _ => rfl⟩)
          have e0 := X3.out.c0
          have e1 := X3.out.c1
          have e2 := X3.out.c2
          have e3 := X3.out.c3
          have d0 := X4.out.c0
          have d1 := X4.out.c1
          have d2 := X4.out.c2
          have d3 := X4.out.c3
          go_wp2_with fail
          (with_reducible refine (HAL.out _ X3.out.at_ X4.out.at_).mono ?_)
          rintro e wj ⟨rfl, q⟩
          have HX := Lib.hid (HX.out.keep q)
          have X1 := Lib.hid (X1.out.keep q)
          clear q e0 e1 e2 e3 d0 d1 d2 d3 HAL hg3 hg4 X3 X4
          have e0 := X1.out.c0
          have e1 := X1.out.c1
          have e2 := X1.out.c2
          have e3 := X1.out.c3
          go_wp2_with fail
          (try rw [w64C.out])
          (with_reducible refine (CP.out _ X1.out.at_).mono ?_)
          rintro e w41 ⟨⟨P5, N5, co5, cn5, cc5, oo5, on5, oc5, cs5, os5, kw5, rfl, ha, hg5⟩, q⟩
          have HX := Lib.hid (HX.out.keep q.out)
          have X1 := Lib.hid (X1.out.keep q.out)
          have HA := ha
          clear q ha e0 e1 e2 e3 CP
          obtain ⟨b5, hb⟩ : ∃ z, w41.heap.size = z := ⟨_, rfl⟩
          obtain ⟨w42, hw⟩ : ∃ z, w41.alloc (.cells #[.int .i64 P5, .int .i64 N5, .slice co5 cn5 cc5, .slice oo5 on5 oc5] 25) = z := ⟨_, rfl⟩
          have q : Below w41.heap.size w41 w42 := by rw [← hw]; exact (Below.refl _ w41).alloc (Nat.le_refl _) _
          have X5 : Hid (Fbox ⟨P5, N5, co5, cn5, cc5, oo5, on5, oc5, cs5, os5⟩ w w42 b5) := Lib.hid (by rw [← hw]; exact fbox_in HA.out hb HX.out.bw)
          have HX := Lib.hid (HX.out.keep q)
          have X1 := Lib.hid (X1.out.keep q)
          have HWX := Lib.hid hw
          have HBX := Lib.hid hb
          clear hw hb HA q
          go_upto_region 15 with fail
          rw [HWX.out]
          try rw [HBX.out]
          clear HWX HBX
          have e0 := HX.out.c0
          have e1 := HX.out.c1
          have e2 := HX.out.c2
          have e3 := HX.out.c3
          go_wp2_with fail
          (try rw [w64C.out])
          (with_reducible refine (CQ.out _ HX.out.at_).mono ?_)
          rintro e w43 ⟨⟨P6, N6, co6, cn6, cc6, oo6, on6, oc6, cs6, os6, kw6, rfl, ha, hg6⟩, q⟩
          have HX := Lib.hid (HX.out.keep q.out)
          have X1 := Lib.hid (X1.out.keep q.out)
          have X5 := Lib.hid (X5.out.keep q.out)
          have HA := ha
          clear q ha e0 e1 e2 e3 CQ
          obtain ⟨b6, hb⟩ : ∃ z, w43.heap.size = z := ⟨_, rfl⟩
          obtain ⟨w44, hw⟩ : ∃ z, w43.alloc (.cells #[.int .i64 P6, .int .i64 N6, .slice co6 cn6 cc6, .slice oo6 on6 oc6] 25) = z := ⟨_, rfl⟩
          have q : Below w43.heap.size w43 w44 := by rw [← hw]; exact (Below.refl _ w43).alloc (Nat.le_refl _) _
          have X6 : Hid (Fbox ⟨P6, N6, co6, cn6, cc6, oo6, on6, oc6, cs6, os6⟩ w w44 b6) := Lib.hid (by rw [← hw]; exact fbox_in HA.out hb HX.out.bw)
          have HX := Lib.hid (HX.out.keep q)
          have X1 := Lib.hid (X1.out.keep q)
          have X5 := Lib.hid (X5.out.keep q)
          have HWX := Lib.hid hw
          have HBX := Lib.hid hb
          clear hw hb HA q
          go_upto_region 16 with fail
          rw [HWX.out]
          try rw [HBX.out]
          clear HWX HBX
          rcases hg5 with ⟨rfl, hg5⟩ | hk5
          · rcases hg6 with ⟨rfl, hg6⟩ | hk6
            · skip
              have HG5 := Lib.hid hg5.out
              have HG6 := Lib.hid hg6.out
              have HFQ := Lib.hid (shg_few HG6.out HSR.out.1.few HLC.out HLO.out HSR.out.2 X6.out.at_)
              have HL6 : Hid (cs6.length = cn6) := Lib.hid X6.out.at_.core.len
              obtain ⟨a4, k4, hp4⟩ := pa_ex (F := ⟨P6, N6, co6, cn6, cc6, oo6, on6, oc6, cs6, os6⟩) (m := A) HFQ.out.2.meas HL6.out (by omega)
              have P4x := Lib.hid hp4
              have HXA : Hid (Fv.At ⟨P1, N1, co1, cn1, cc1, oo1, on1, oc1, cs1, os1⟩ w44) := Lib.hid X1.out.at_
              have HQA : Hid (Fv.At ⟨P6, N6, co6, cn6, cc6, oo6, on6, oc6, cs6, os6⟩ w44) := Lib.hid X6.out.at_
              clear hg5 hg6 hp4
              have CR : Hid (∀ W, Fv.At ⟨P6, N6, co6, cn6, cc6, oo6, on6, oc6, cs6, os6⟩ W → Calls Try.prog 8 #[.agg #[.int .i64 P6, .int .i64 N6, .slice co6 cn6 cc6, .slice oo6 on6 oc6], .int .i64 ((A : Int))] W fun e w' => GpTo ⟨P6, N6, co6, cn6, cc6, oo6, on6, oc6, cs6, os6⟩ (A) a4 k4 W e w') := Lib.hid (fun W h => group_to ⟨P6, N6, co6, cn6, cc6, oo6, on6, oc6, cs6, os6⟩ (A) a4 k4 W h HFQ.out.2 HFQ.out.1 (by omega) (by omega) P4x.out)
              have e0 := X6.out.c0
              have e1 := X6.out.c1
              have e2 := X6.out.c2
              have e3 := X6.out.c3
              go_wp2_with fail
              (try rw [w64C.out])
              (with_reducible refine (CR.out _ X6.out.at_).mono ?_)
              rintro e w45 ⟨⟨P7, N7, co7, cn7, cc7, oo7, on7, oc7, cs7, os7, kw7, rfl, ha, hg7⟩, q⟩
              have HX := Lib.hid (HX.out.keep q.out)
              have X1 := Lib.hid (X1.out.keep q.out)
              have X5 := Lib.hid (X5.out.keep q.out)
              have X6 := Lib.hid (X6.out.keep q.out)
              have HA := ha
              clear q ha e0 e1 e2 e3 CR
              obtain ⟨b7, hb⟩ : ∃ z, w45.heap.size = z := ⟨_, rfl⟩
              obtain ⟨w46, hw⟩ : ∃ z, w45.alloc (.cells #[.int .i64 P7, .int .i64 N7, .slice co7 cn7 cc7, .slice oo7 on7 oc7] 25) = z := ⟨_, rfl⟩
              have q : Below w45.heap.size w45 w46 := by rw [← hw]; exact (Below.refl _ w45).alloc (Nat.le_refl _) _
              have X7 : Hid (Fbox ⟨P7, N7, co7, cn7, cc7, oo7, on7, oc7, cs7, os7⟩ w w46 b7) := Lib.hid (by rw [← hw]; exact fbox_in HA.out hb HX.out.bw)
              have HX := Lib.hid (HX.out.keep q)
              have X1 := Lib.hid (X1.out.keep q)
              have X5 := Lib.hid (X5.out.keep q)
              have X6 := Lib.hid (X6.out.keep q)
              have HWX := Lib.hid hw
              have HBX := Lib.hid hb
              clear hw hb HA q
              go_upto_region 19 with fail
              rw [HWX.out]
              try rw [HBX.out]
              clear HWX HBX
              rcases hg7 with ⟨rfl, hg7⟩ | hk7
              · have HAL : Hid (∀ W, Fv.At ⟨P5, N5, co5, cn5, cc5, oo5, on5, oc5, cs5, os5⟩ W → Fv.At ⟨P7, N7, co7, cn7, cc7, oo7, on7, oc7, cs7, os7⟩ W → Calls Try.prog 9 #[.agg #[.int .i64 P5, .int .i64 N5, .slice co5 cn5 cc5, .slice oo5 on5 oc5], .agg #[.int .i64 P7, .int .i64 N7, .slice co7 cn7 cc7, .slice oo7 on7 oc7]] W fun e w' => e = .returned (.bool true) ∧ Below W.heap.size W w') := Lib.hid (fun W h k => alikeForms_any ⟨P5, N5, co5, cn5, cc5, oo5, on5, oc5, cs5, os5⟩ ⟨P7, N7, co7, cn7, cc7, oo7, on7, oc7, cs7, os7⟩ W h k true ⟨fun _ => move_sameG HG1.out P1x.out A1 HLC.out HLO.out HSR.out.2 HXA.out HG5.out HG6.out HQA.out hg7.out P4x.out, fun _ => rfl⟩)
                have e0 := X5.out.c0
                have e1 := X5.out.c1
                have e2 := X5.out.c2
                have e3 := X5.out.c3
                have d0 := X7.out.c0
                have d1 := X7.out.c1
                have d2 := X7.out.c2
                have d3 := X7.out.c3
                go_wp2_with fail
                (with_reducible refine (HAL.out _ X5.out.at_ X7.out.at_).mono ?_)
                rintro e wj2 ⟨rfl, q⟩
                have HX := Lib.hid (HX.out.keep q)
                clear q e0 e1 e2 e3 d0 d1 d2 d3 HAL hg7 X5 X7
                go_wp2_with fail
                (with_reducible refine (HAW.out _).mono ?_)
                rintro e wz ⟨rfl, qz⟩
                have HZ := Lib.hid (HX.out.bw.trans (qz.mono HX.out.bw.size))
                clear qz
                go_wp2
                go_returns
                exact ⟨rfl, HZ.out⟩
              · have tk7 : (kw7 != 0) = true := by simp; exact hk7
                go_wp2_with fail
                (with_reducible refine (HAW.out _).mono ?_)
                rintro e wz ⟨rfl, qz⟩
                have HZ := Lib.hid (HX.out.bw.trans (qz.mono HX.out.bw.size))
                clear qz
                go_wp2
                go_returns
                exact ⟨rfl, HZ.out⟩
            · have tk5 : (kw6 != 0) = true := by simp; exact hk6
              clear hg5
              go_wp2_with fail
              (with_reducible refine (HAW.out _).mono ?_)
              rintro e wz ⟨rfl, qz⟩
              have HZ := Lib.hid (HX.out.bw.trans (qz.mono HX.out.bw.size))
              clear qz
              go_wp2
              go_returns
              exact ⟨rfl, HZ.out⟩
          · have tk5 : (kw5 != 0) = true := by simp; exact hk5
            clear hg6
            go_wp2_with fail
            (with_reducible refine (HAW.out _).mono ?_)
            rintro e wz ⟨rfl, qz⟩
            have HZ := Lib.hid (HX.out.bw.trans (qz.mono HX.out.bw.size))
            clear qz
            go_wp2
            go_returns
            exact ⟨rfl, HZ.out⟩
        · have tk : (kw4 == 0) = false := by simp; exact hk
          clear hg3 X3 X4
          have e0 := X1.out.c0
          have e1 := X1.out.c1
          have e2 := X1.out.c2
          have e3 := X1.out.c3
          go_wp2_with fail
          (try rw [w64C.out])
          (with_reducible refine (CP.out _ X1.out.at_).mono ?_)
          rintro e w41 ⟨⟨P5, N5, co5, cn5, cc5, oo5, on5, oc5, cs5, os5, kw5, rfl, ha, hg5⟩, q⟩
          have HX := Lib.hid (HX.out.keep q.out)
          have X1 := Lib.hid (X1.out.keep q.out)
          have HA := ha
          clear q ha e0 e1 e2 e3 CP
          obtain ⟨b5, hb⟩ : ∃ z, w41.heap.size = z := ⟨_, rfl⟩
          obtain ⟨w42, hw⟩ : ∃ z, w41.alloc (.cells #[.int .i64 P5, .int .i64 N5, .slice co5 cn5 cc5, .slice oo5 on5 oc5] 25) = z := ⟨_, rfl⟩
          have q : Below w41.heap.size w41 w42 := by rw [← hw]; exact (Below.refl _ w41).alloc (Nat.le_refl _) _
          have X5 : Hid (Fbox ⟨P5, N5, co5, cn5, cc5, oo5, on5, oc5, cs5, os5⟩ w w42 b5) := Lib.hid (by rw [← hw]; exact fbox_in HA.out hb HX.out.bw)
          have HX := Lib.hid (HX.out.keep q)
          have X1 := Lib.hid (X1.out.keep q)
          have HWX := Lib.hid hw
          have HBX := Lib.hid hb
          clear hw hb HA q
          go_upto_region 15 with fail
          rw [HWX.out]
          try rw [HBX.out]
          clear HWX HBX
          have e0 := HX.out.c0
          have e1 := HX.out.c1
          have e2 := HX.out.c2
          have e3 := HX.out.c3
          go_wp2_with fail
          (try rw [w64C.out])
          (with_reducible refine (CQ.out _ HX.out.at_).mono ?_)
          rintro e w43 ⟨⟨P6, N6, co6, cn6, cc6, oo6, on6, oc6, cs6, os6, kw6, rfl, ha, hg6⟩, q⟩
          have HX := Lib.hid (HX.out.keep q.out)
          have X1 := Lib.hid (X1.out.keep q.out)
          have X5 := Lib.hid (X5.out.keep q.out)
          have HA := ha
          clear q ha e0 e1 e2 e3 CQ
          obtain ⟨b6, hb⟩ : ∃ z, w43.heap.size = z := ⟨_, rfl⟩
          obtain ⟨w44, hw⟩ : ∃ z, w43.alloc (.cells #[.int .i64 P6, .int .i64 N6, .slice co6 cn6 cc6, .slice oo6 on6 oc6] 25) = z := ⟨_, rfl⟩
          have q : Below w43.heap.size w43 w44 := by rw [← hw]; exact (Below.refl _ w43).alloc (Nat.le_refl _) _
          have X6 : Hid (Fbox ⟨P6, N6, co6, cn6, cc6, oo6, on6, oc6, cs6, os6⟩ w w44 b6) := Lib.hid (by rw [← hw]; exact fbox_in HA.out hb HX.out.bw)
          have HX := Lib.hid (HX.out.keep q)
          have X1 := Lib.hid (X1.out.keep q)
          have X5 := Lib.hid (X5.out.keep q)
          have HWX := Lib.hid hw
          have HBX := Lib.hid hb
          clear hw hb HA q
          go_upto_region 16 with fail
          rw [HWX.out]
          try rw [HBX.out]
          clear HWX HBX
          rcases hg5 with ⟨rfl, hg5⟩ | hk5
          · rcases hg6 with ⟨rfl, hg6⟩ | hk6
            · skip
              have HG5 := Lib.hid hg5.out
              have HG6 := Lib.hid hg6.out
              have HFQ := Lib.hid (shg_few HG6.out HSR.out.1.few HLC.out HLO.out HSR.out.2 X6.out.at_)
              have HL6 : Hid (cs6.length = cn6) := Lib.hid X6.out.at_.core.len
              obtain ⟨a4, k4, hp4⟩ := pa_ex (F := ⟨P6, N6, co6, cn6, cc6, oo6, on6, oc6, cs6, os6⟩) (m := A) HFQ.out.2.meas HL6.out (by omega)
              have P4x := Lib.hid hp4
              have HXA : Hid (Fv.At ⟨P1, N1, co1, cn1, cc1, oo1, on1, oc1, cs1, os1⟩ w44) := Lib.hid X1.out.at_
              have HQA : Hid (Fv.At ⟨P6, N6, co6, cn6, cc6, oo6, on6, oc6, cs6, os6⟩ w44) := Lib.hid X6.out.at_
              clear hg5 hg6 hp4
              have CR : Hid (∀ W, Fv.At ⟨P6, N6, co6, cn6, cc6, oo6, on6, oc6, cs6, os6⟩ W → Calls Try.prog 8 #[.agg #[.int .i64 P6, .int .i64 N6, .slice co6 cn6 cc6, .slice oo6 on6 oc6], .int .i64 ((A : Int))] W fun e w' => GpTo ⟨P6, N6, co6, cn6, cc6, oo6, on6, oc6, cs6, os6⟩ (A) a4 k4 W e w') := Lib.hid (fun W h => group_to ⟨P6, N6, co6, cn6, cc6, oo6, on6, oc6, cs6, os6⟩ (A) a4 k4 W h HFQ.out.2 HFQ.out.1 (by omega) (by omega) P4x.out)
              have e0 := X6.out.c0
              have e1 := X6.out.c1
              have e2 := X6.out.c2
              have e3 := X6.out.c3
              go_wp2_with fail
              (try rw [w64C.out])
              (with_reducible refine (CR.out _ X6.out.at_).mono ?_)
              rintro e w45 ⟨⟨P7, N7, co7, cn7, cc7, oo7, on7, oc7, cs7, os7, kw7, rfl, ha, hg7⟩, q⟩
              have HX := Lib.hid (HX.out.keep q.out)
              have X1 := Lib.hid (X1.out.keep q.out)
              have X5 := Lib.hid (X5.out.keep q.out)
              have X6 := Lib.hid (X6.out.keep q.out)
              have HA := ha
              clear q ha e0 e1 e2 e3 CR
              obtain ⟨b7, hb⟩ : ∃ z, w45.heap.size = z := ⟨_, rfl⟩
              obtain ⟨w46, hw⟩ : ∃ z, w45.alloc (.cells #[.int .i64 P7, .int .i64 N7, .slice co7 cn7 cc7, .slice oo7 on7 oc7] 25) = z := ⟨_, rfl⟩
              have q : Below w45.heap.size w45 w46 := by rw [← hw]; exact (Below.refl _ w45).alloc (Nat.le_refl _) _
              have X7 : Hid (Fbox ⟨P7, N7, co7, cn7, cc7, oo7, on7, oc7, cs7, os7⟩ w w46 b7) := Lib.hid (by rw [← hw]; exact fbox_in HA.out hb HX.out.bw)
              have HX := Lib.hid (HX.out.keep q)
              have X1 := Lib.hid (X1.out.keep q)
              have X5 := Lib.hid (X5.out.keep q)
              have X6 := Lib.hid (X6.out.keep q)
              have HWX := Lib.hid hw
              have HBX := Lib.hid hb
              clear hw hb HA q
              go_upto_region 19 with fail
              rw [HWX.out]
              try rw [HBX.out]
              clear HWX HBX
              rcases hg7 with ⟨rfl, hg7⟩ | hk7
              · have HAL : Hid (∀ W, Fv.At ⟨P5, N5, co5, cn5, cc5, oo5, on5, oc5, cs5, os5⟩ W → Fv.At ⟨P7, N7, co7, cn7, cc7, oo7, on7, oc7, cs7, os7⟩ W → Calls Try.prog 9 #[.agg #[.int .i64 P5, .int .i64 N5, .slice co5 cn5 cc5, .slice oo5 on5 oc5], .agg #[.int .i64 P7, .int .i64 N7, .slice co7 cn7 cc7, .slice oo7 on7 oc7]] W fun e w' => e = .returned (.bool true) ∧ Below W.heap.size W w') := Lib.hid (fun W h k => alikeForms_any ⟨P5, N5, co5, cn5, cc5, oo5, on5, oc5, cs5, os5⟩ ⟨P7, N7, co7, cn7, cc7, oo7, on7, oc7, cs7, os7⟩ W h k true ⟨fun _ => move_sameG HG1.out P1x.out A1 HLC.out HLO.out HSR.out.2 HXA.out HG5.out HG6.out HQA.out hg7.out P4x.out, fun _ => rfl⟩)
                have e0 := X5.out.c0
                have e1 := X5.out.c1
                have e2 := X5.out.c2
                have e3 := X5.out.c3
                have d0 := X7.out.c0
                have d1 := X7.out.c1
                have d2 := X7.out.c2
                have d3 := X7.out.c3
                go_wp2_with fail
                (with_reducible refine (HAL.out _ X5.out.at_ X7.out.at_).mono ?_)
                rintro e wj2 ⟨rfl, q⟩
                have HX := Lib.hid (HX.out.keep q)
                clear q e0 e1 e2 e3 d0 d1 d2 d3 HAL hg7 X5 X7
                go_wp2_with fail
                (with_reducible refine (HAW.out _).mono ?_)
                rintro e wz ⟨rfl, qz⟩
                have HZ := Lib.hid (HX.out.bw.trans (qz.mono HX.out.bw.size))
                clear qz
                go_wp2
                go_returns
                exact ⟨rfl, HZ.out⟩
              · have tk7 : (kw7 != 0) = true := by simp; exact hk7
                go_wp2_with fail
                (with_reducible refine (HAW.out _).mono ?_)
                rintro e wz ⟨rfl, qz⟩
                have HZ := Lib.hid (HX.out.bw.trans (qz.mono HX.out.bw.size))
                clear qz
                go_wp2
                go_returns
                exact ⟨rfl, HZ.out⟩
            · have tk5 : (kw6 != 0) = true := by simp; exact hk6
              clear hg5
              go_wp2_with fail
              (with_reducible refine (HAW.out _).mono ?_)
              rintro e wz ⟨rfl, qz⟩
              have HZ := Lib.hid (HX.out.bw.trans (qz.mono HX.out.bw.size))
              clear qz
              go_wp2
              go_returns
              exact ⟨rfl, HZ.out⟩
          · have tk5 : (kw5 != 0) = true := by simp; exact hk5
            clear hg6
            go_wp2_with fail
            (with_reducible refine (HAW.out _).mono ?_)
            rintro e wz ⟨rfl, qz⟩
            have HZ := Lib.hid (HX.out.bw.trans (qz.mono HX.out.bw.size))
            clear qz
            go_wp2
            go_returns
            exact ⟨rfl, HZ.out⟩
      · have tk : (kw3 == 0) = false := by simp; exact hk
        clear X3 X4 hg4
        have e0 := X1.out.c0
        have e1 := X1.out.c1
        have e2 := X1.out.c2
        have e3 := X1.out.c3
        go_wp2_with fail
        (try rw [w64C.out])
        (with_reducible refine (CP.out _ X1.out.at_).mono ?_)
        rintro e w41 ⟨⟨P5, N5, co5, cn5, cc5, oo5, on5, oc5, cs5, os5, kw5, rfl, ha, hg5⟩, q⟩
        have HX := Lib.hid (HX.out.keep q.out)
        have X1 := Lib.hid (X1.out.keep q.out)
        have HA := ha
        clear q ha e0 e1 e2 e3 CP
        obtain ⟨b5, hb⟩ : ∃ z, w41.heap.size = z := ⟨_, rfl⟩
        obtain ⟨w42, hw⟩ : ∃ z, w41.alloc (.cells #[.int .i64 P5, .int .i64 N5, .slice co5 cn5 cc5, .slice oo5 on5 oc5] 25) = z := ⟨_, rfl⟩
        have q : Below w41.heap.size w41 w42 := by rw [← hw]; exact (Below.refl _ w41).alloc (Nat.le_refl _) _
        have X5 : Hid (Fbox ⟨P5, N5, co5, cn5, cc5, oo5, on5, oc5, cs5, os5⟩ w w42 b5) := Lib.hid (by rw [← hw]; exact fbox_in HA.out hb HX.out.bw)
        have HX := Lib.hid (HX.out.keep q)
        have X1 := Lib.hid (X1.out.keep q)
        have HWX := Lib.hid hw
        have HBX := Lib.hid hb
        clear hw hb HA q
        go_upto_region 15 with fail
        rw [HWX.out]
        try rw [HBX.out]
        clear HWX HBX
        have e0 := HX.out.c0
        have e1 := HX.out.c1
        have e2 := HX.out.c2
        have e3 := HX.out.c3
        go_wp2_with fail
        (try rw [w64C.out])
        (with_reducible refine (CQ.out _ HX.out.at_).mono ?_)
        rintro e w43 ⟨⟨P6, N6, co6, cn6, cc6, oo6, on6, oc6, cs6, os6, kw6, rfl, ha, hg6⟩, q⟩
        have HX := Lib.hid (HX.out.keep q.out)
        have X1 := Lib.hid (X1.out.keep q.out)
        have X5 := Lib.hid (X5.out.keep q.out)
        have HA := ha
        clear q ha e0 e1 e2 e3 CQ
        obtain ⟨b6, hb⟩ : ∃ z, w43.heap.size = z := ⟨_, rfl⟩
        obtain ⟨w44, hw⟩ : ∃ z, w43.alloc (.cells #[.int .i64 P6, .int .i64 N6, .slice co6 cn6 cc6, .slice oo6 on6 oc6] 25) = z := ⟨_, rfl⟩
        have q : Below w43.heap.size w43 w44 := by rw [← hw]; exact (Below.refl _ w43).alloc (Nat.le_refl _) _
        have X6 : Hid (Fbox ⟨P6, N6, co6, cn6, cc6, oo6, on6, oc6, cs6, os6⟩ w w44 b6) := Lib.hid (by rw [← hw]; exact fbox_in HA.out hb HX.out.bw)
        have HX := Lib.hid (HX.out.keep q)
        have X1 := Lib.hid (X1.out.keep q)
        have X5 := Lib.hid (X5.out.keep q)
        have HWX := Lib.hid hw
        have HBX := Lib.hid hb
        clear hw hb HA q
        go_upto_region 16 with fail
        rw [HWX.out]
        try rw [HBX.out]
        clear HWX HBX
        rcases hg5 with ⟨rfl, hg5⟩ | hk5
        · rcases hg6 with ⟨rfl, hg6⟩ | hk6
          · skip
            have HG5 := Lib.hid hg5.out
            have HG6 := Lib.hid hg6.out
            have HFQ := Lib.hid (shg_few HG6.out HSR.out.1.few HLC.out HLO.out HSR.out.2 X6.out.at_)
            have HL6 : Hid (cs6.length = cn6) := Lib.hid X6.out.at_.core.len
            obtain ⟨a4, k4, hp4⟩ := pa_ex (F := ⟨P6, N6, co6, cn6, cc6, oo6, on6, oc6, cs6, os6⟩) (m := A) HFQ.out.2.meas HL6.out (by omega)
            have P4x := Lib.hid hp4
            have HXA : Hid (Fv.At ⟨P1, N1, co1, cn1, cc1, oo1, on1, oc1, cs1, os1⟩ w44) := Lib.hid X1.out.at_
            have HQA : Hid (Fv.At ⟨P6, N6, co6, cn6, cc6, oo6, on6, oc6, cs6, os6⟩ w44) := Lib.hid X6.out.at_
            clear hg5 hg6 hp4
            have CR : Hid (∀ W, Fv.At ⟨P6, N6, co6, cn6, cc6, oo6, on6, oc6, cs6, os6⟩ W → Calls Try.prog 8 #[.agg #[.int .i64 P6, .int .i64 N6, .slice co6 cn6 cc6, .slice oo6 on6 oc6], .int .i64 ((A : Int))] W fun e w' => GpTo ⟨P6, N6, co6, cn6, cc6, oo6, on6, oc6, cs6, os6⟩ (A) a4 k4 W e w') := Lib.hid (fun W h => group_to ⟨P6, N6, co6, cn6, cc6, oo6, on6, oc6, cs6, os6⟩ (A) a4 k4 W h HFQ.out.2 HFQ.out.1 (by omega) (by omega) P4x.out)
            have e0 := X6.out.c0
            have e1 := X6.out.c1
            have e2 := X6.out.c2
            have e3 := X6.out.c3
            go_wp2_with fail
            (try rw [w64C.out])
            (with_reducible refine (CR.out _ X6.out.at_).mono ?_)
            rintro e w45 ⟨⟨P7, N7, co7, cn7, cc7, oo7, on7, oc7, cs7, os7, kw7, rfl, ha, hg7⟩, q⟩
            have HX := Lib.hid (HX.out.keep q.out)
            have X1 := Lib.hid (X1.out.keep q.out)
            have X5 := Lib.hid (X5.out.keep q.out)
            have X6 := Lib.hid (X6.out.keep q.out)
            have HA := ha
            clear q ha e0 e1 e2 e3 CR
            obtain ⟨b7, hb⟩ : ∃ z, w45.heap.size = z := ⟨_, rfl⟩
            obtain ⟨w46, hw⟩ : ∃ z, w45.alloc (.cells #[.int .i64 P7, .int .i64 N7, .slice co7 cn7 cc7, .slice oo7 on7 oc7] 25) = z := ⟨_, rfl⟩
            have q : Below w45.heap.size w45 w46 := by rw [← hw]; exact (Below.refl _ w45).alloc (Nat.le_refl _) _
            have X7 : Hid (Fbox ⟨P7, N7, co7, cn7, cc7, oo7, on7, oc7, cs7, os7⟩ w w46 b7) := Lib.hid (by rw [← hw]; exact fbox_in HA.out hb HX.out.bw)
            have HX := Lib.hid (HX.out.keep q)
            have X1 := Lib.hid (X1.out.keep q)
            have X5 := Lib.hid (X5.out.keep q)
            have X6 := Lib.hid (X6.out.keep q)
            have HWX := Lib.hid hw
            have HBX := Lib.hid hb
            clear hw hb HA q
            go_upto_region 19 with fail
            rw [HWX.out]
            try rw [HBX.out]
            clear HWX HBX
            rcases hg7 with ⟨rfl, hg7⟩ | hk7
            · have HAL : Hid (∀ W, Fv.At ⟨P5, N5, co5, cn5, cc5, oo5, on5, oc5, cs5, os5⟩ W → Fv.At ⟨P7, N7, co7, cn7, cc7, oo7, on7, oc7, cs7, os7⟩ W → Calls Try.prog 9 #[.agg #[.int .i64 P5, .int .i64 N5, .slice co5 cn5 cc5, .slice oo5 on5 oc5], .agg #[.int .i64 P7, .int .i64 N7, .slice co7 cn7 cc7, .slice oo7 on7 oc7]] W fun e w' => e = .returned (.bool true) ∧ Below W.heap.size W w') := Lib.hid (fun W h k => alikeForms_any ⟨P5, N5, co5, cn5, cc5, oo5, on5, oc5, cs5, os5⟩ ⟨P7, N7, co7, cn7, cc7, oo7, on7, oc7, cs7, os7⟩ W h k true ⟨fun _ => move_sameG HG1.out P1x.out A1 HLC.out HLO.out HSR.out.2 HXA.out HG5.out HG6.out HQA.out hg7.out P4x.out, fun _ => rfl⟩)
              have e0 := X5.out.c0
              have e1 := X5.out.c1
              have e2 := X5.out.c2
              have e3 := X5.out.c3
              have d0 := X7.out.c0
              have d1 := X7.out.c1
              have d2 := X7.out.c2
              have d3 := X7.out.c3
              go_wp2_with fail
              (with_reducible refine (HAL.out _ X5.out.at_ X7.out.at_).mono ?_)
              rintro e wj2 ⟨rfl, q⟩
              have HX := Lib.hid (HX.out.keep q)
              clear q e0 e1 e2 e3 d0 d1 d2 d3 HAL hg7 X5 X7
              go_wp2_with fail
              (with_reducible refine (HAW.out _).mono ?_)
              rintro e wz ⟨rfl, qz⟩
              have HZ := Lib.hid (HX.out.bw.trans (qz.mono HX.out.bw.size))
              clear qz
              go_wp2
              go_returns
              exact ⟨rfl, HZ.out⟩
            · have tk7 : (kw7 != 0) = true := by simp; exact hk7
              go_wp2_with fail
              (with_reducible refine (HAW.out _).mono ?_)
              rintro e wz ⟨rfl, qz⟩
              have HZ := Lib.hid (HX.out.bw.trans (qz.mono HX.out.bw.size))
              clear qz
              go_wp2
              go_returns
              exact ⟨rfl, HZ.out⟩
          · have tk5 : (kw6 != 0) = true := by simp; exact hk6
            clear hg5
            go_wp2_with fail
            (with_reducible refine (HAW.out _).mono ?_)
            rintro e wz ⟨rfl, qz⟩
            have HZ := Lib.hid (HX.out.bw.trans (qz.mono HX.out.bw.size))
            clear qz
            go_wp2
            go_returns
            exact ⟨rfl, HZ.out⟩
        · have tk5 : (kw5 != 0) = true := by simp; exact hk5
          clear hg6
          go_wp2_with fail
          (with_reducible refine (HAW.out _).mono ?_)
          rintro e wz ⟨rfl, qz⟩
          have HZ := Lib.hid (HX.out.bw.trans (qz.mono HX.out.bw.size))
          clear qz
          go_wp2
          go_returns
          exact ⟨rfl, HZ.out⟩
    · have tk : (kw1 != 0) = true := by simp; exact hk
      go_wp2_with fail
      (with_reducible refine (HAW.out _).mono ?_)
      rintro e wz ⟨rfl, qz⟩
      have HZ := Lib.hid (HX.out.bw.trans (qz.mono HX.out.bw.size))
      clear qz
      go_wp2
      go_returns
      exact ⟨rfl, HZ.out⟩
end Go.Proofs.Ytmjapbjjfhmohaa
