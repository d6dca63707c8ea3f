/- Contracts: the document's Set. -/
import Derived.Test.YthjpnnggghfepaaR6
import Derived.Test.YthjpnnggghfepaaU4
import Derived.Deep.Onto
namespace Go.Proofs.Ythjpnnggghfepaa
set_option linter.unusedVariables false
set_option linter.unusedSimpArgs false
open Go.ChangeShapes Go.WideShapes Go.ChangeAt Go.RowKit
theorem rhas_is (ao : Option Addr) (n c : Nat) (l : List Sp) (t : Int) (w : World) (hw : SpAt w ao n c l) (r : Bool) (hr : r = true ↔ mem l t) :
    Calls Try.prog 22 #[.slice ao n c, .int .i64 t] w fun e w' => e = .returned (.bool r) ∧ w' = w :=
  (rhas_any ao n c l t w hw r hr).mono fun e w' ⟨h1, h2⟩ => ⟨h1, h2.symm⟩
theorem in_is (k : Int) (p q f : Bool) (h : inB k p q = f) (w : World) : Calls Try.prog 42 #[.int .i64 k, .bool p, .bool q] w fun e w' => e = .returned (.bool f) ∧ w' = w := by
  subst h; exact (in_any k p q w).mono fun e w' ⟨h1, h2⟩ => ⟨h1, h2.symm⟩
set_option maxHeartbeats 4000000 in
theorem refSet_any (k : Int) (ao bo : Option Addr) (n c m d : Nat) (a b : List Sp) (hn : n ≤ 5000) (hm : m ≤ 5000) (sa : Spans a) (sb : Spans b) (w : World) (ha : SpAt w ao n c a) (hb : SpAt w bo m d b) :
    Calls Try.prog 17 #[.int .i64 k, .slice ao n c, .slice bo m d] w fun e w' => ∃ v r, e = .returned v ∧ Good r ∧ (∀ t, mem r t ↔ Fk k a b t = true) ∧ r.length ≤ 2 * n + 2 * m ∧ w'.ownsRow w.heap.size 35 2 v r.length (spCells r) ∧ Below w.heap.size w w' := by
  obtain ⟨i0, hi, hz0, hz1, hz2⟩ := info_parts info35
  have HII := Lib.hid hi
  have HZ0 := Lib.hid hz0
  have HZ1 := Lib.hid hz1
  have HZ2 := Lib.hid hz2
  have fit : ∀ {l : List Sp}, Spans l → FitL l ∧ ∀ s ∈ l, s.2 ≤ 1099511627776 := fun h => ⟨fun s hs => by have := h s hs; omega, fun s hs => (h s hs).2.2⟩
  have PC := Lib.hid (places_any ao bo n c m d a b (by omega) (by omega) (fit sa).1 (fit sb).1 (fit sa).2 (fit sb).2 w ha hb)
  have PL := Lib.hid (plc_pls a b)
  have LA := Lib.hid ha.len
  have LB := Lib.hid hb.len
  have HA := Lib.hid ha
  have HB := Lib.hid hb
  have SA := Lib.hid sa
  have SB := Lib.hid sb
  obtain ⟨P, hP⟩ : ∃ z, pls (pls [] a) b = z := ⟨_, rfl⟩
  rw [hP] at PC PL
  have hPL : P.length ≤ 20000 := by have := PL.out.len; have := LA.out; have := LB.out; omega
  have HPN : Hid (P.length ≤ 2 * n + 2 * m) := Lib.hid (by have := PL.out.len; have := LA.out; have := LB.out; omega)
  obtain ⟨N, hN⟩ : ∃ z, P.length = z := ⟨_, rfl⟩
  have HN := Lib.hid hN
  rw [hN] at PC HPN hPL
  clear hi hz0 hz1 hz2 fit ha hb sa sb hP hN
  go_enter Try.func17, Try.ntmps17
  go_upto_region 2 with (go_at_call 41; (with_reducible refine (PC.out).mono ?_); rintro e w1 ⟨po, pc, rfl, HP, q1⟩)
  have HB1 := Lib.hid q1
  have HA1 := Lib.hid (HA.out.keep q1)
  have HBB := Lib.hid (HB.out.keep q1)
  clear q1 PC HA HB
  go_wp2
  go_loopw [8, 9] (fun v ii wr => ∃ (i : Nat) (r : List Sp), (i = 0 ∨ i < N) ∧ ii = .int .i64 i ∧ Hid (r.length ≤ i) ∧ Hid (wr.ownsRow w1.heap.size 35 2 v r.length (spCells r)) ∧ Hid (∀ h : i < P.length, Told (Fk k a b) P[i] r) ∧ Hid (N = 0 → r = []) ∧ Hid (Below w1.heap.size w1 wr)) (fun _ ii _ => N - (intOf ii).toNat)
  case atStart => exact ⟨0, [], .inl rfl, rfl, Lib.hid (Nat.le_refl _), Lib.hid (World.ownsRow_nil _ _ _ _), Lib.hid (fun h => told_start PL.out SA.out SB.out h), Lib.hid (fun _ => rfl), Lib.hid (Below.refl _ _)⟩
  case round =>
    obtain ⟨i, r, hi0, rfl, HR, HO, HT, HE, HW⟩ := hrel
    have hle : i ≤ 20000 := by omega
    by_cases ilt : i + 1 < N
    · have hiP : i + 1 < P.length := by rw [HN.out]; exact ilt
      obtain ⟨g, p, rfl, hc⟩ := HP.out.here (by omega)
      obtain ⟨q1, q2⟩ := PL.out.low SA.out SB.out (List.getElem_mem (show i < P.length by omega))
      obtain ⟨q3, q4⟩ := PL.out.low SA.out SB.out (List.getElem_mem hiP)
      have qq := List.pairwise_iff_getElem.1 PL.out.inc i (i + 1) (by omega) hiP (by omega)
      have HTT := Lib.hid (HT.out (by omega))
      have c1 := cell_keep (hc i (by omega)) HW.out
      have c2 := cell_keep (hc (i + 1) hiP) HW.out
      obtain ⟨x, hx⟩ : ∃ z, P[i] = z := ⟨_, rfl⟩
      obtain ⟨y, hy⟩ : ∃ z, P[i + 1] = z := ⟨_, rfl⟩
      rw [hx] at q1 q2 qq HTT c1
      rw [hy] at q3 q4 qq c2
      have HNX2 : Hid (∀ r', Told (Fk k a b) y r' → ∀ h : i + 1 < P.length, Told (Fk k a b) P[i + 1] r') := Lib.hid (fun r' h hh => by rw [hy]; exact h)
      have HFC : Hid (∀ t, x ≤ t → t < y → Fk k a b t = Fk k a b x) := Lib.hid (fun t h1 h2 => by
        have q := PL.out.flat (i := i) hiP (t := t) (by rw [hx]; exact h1) (by rw [hy]; exact h2)
        rw [hx] at q
        exact Fk_flat q.1 q.2)
      have HHI : Hid (i + 1 < P.length) := Lib.hid hiP
      clear hx hy hc hiP HT
      obtain ⟨pa, hpa⟩ : ∃ z : Bool, Hid (z = true ↔ mem a x) := by classical exact ⟨decide _, Lib.hid decide_eq_true_iff⟩
      obtain ⟨pb, hpb⟩ : ∃ z : Bool, Hid (z = true ↔ mem b x) := by classical exact ⟨decide _, Lib.hid decide_eq_true_iff⟩
      have e : Fk k a b x = inB k pa pb := by
        unfold Fk
        have e1 : pa = @decide (mem a x) (Classical.propDecidable _) := by rw [Bool.eq_iff_iff, hpa.out]; simp
        have e2 : pb = @decide (mem b x) (Classical.propDecidable _) := by rw [Bool.eq_iff_iff, hpb.out]; simp
        rw [e1, e2]
      obtain ⟨f, hf⟩ : ∃ f, inB k pa pb = f := ⟨_, rfl⟩
      have HF : Hid (Fk k a b x = f) := Lib.hid (by rw [e, hf])
      have T1 := Lib.hid (fun j => rhas_is ao n c a x (wr.drewN j) ((HA1.out.keep HW.out).keep (below_drewN (Below.refl _ wr) j)) pa hpa.out)
      have T2 := Lib.hid (fun j => rhas_is bo m d b x (wr.drewN j) ((HBB.out.keep HW.out).keep (below_drewN (Below.refl _ wr) j)) pb hpb.out)
      have T3 := Lib.hid (fun w => in_is k pa pb f hf w)
      have i0' : (0 : Int) ≤ (i : Int) := by omega
      have i1' : (i : Int) < (N : Int) := by omega
      have i2' : (i : Int) + 1 < (N : Int) := by omega
      clear e hf
      go_upto_region 6 with fail
      go_quiet ((first | (go_at_call 22; with_reducible exact Calls.quiet_of_same (T1.out _)) | (go_at_call 22; with_reducible exact Calls.quiet_of_same (T2.out _)) | (go_at_call 42; with_reducible exact Calls.quiet_of_same (T3.out _)) | fail))
      clear T1 T2 T3
      cases f
      · have HT2 : Hid (∀ h : i + 1 < P.length, Told (Fk k a b) P[i + 1] r) := Lib.hid (HNX2.out _ (told_skip HTT.out qq HFC.out HF.out))
        have HR2 : Hid (r.length ≤ i + 1) := Lib.hid (by have := HR.out; omega)
        go_wp2
        go_roundw
        case rel => exact ⟨i + 1, r, .inr ilt, by go_num, HR2, Lib.hid (keepB HO.out (below_drewN (Below.refl _ wr) nq)), HT2, HE, Lib.hid (below_drewN HW.out nq)⟩
        case measure => simp [intOf]; omega
      · obtain ⟨W, hW⟩ : ∃ W, wr.drewN nq = W := ⟨_, rfl⟩
        have k1 := cell_keep c1 (below_drewN (Below.refl _ wr) nq)
        have k2 := cell_keep c2 (below_drewN (Below.refl _ wr) nq)
        have HOW := Lib.hid (keepB HO.out (below_drewN (Below.refl _ wr) nq))
        have HWW := Lib.hid (below_drewN HW.out nq)
        rw [hW] at k1 k2 HOW HWW
        rw [hW]
        clear hW c1 c2 HO HW
        have hrl : r.length ≤ 20000 := by have := HR.out; omega
        obtain ⟨M, hM⟩ : ∃ M, r.length = M := ⟨_, rfl⟩
        have HOM := HOW.out
        rw [hM] at HOM hrl
        have HR2 := HR.out
        rw [hM] at HR2
        obtain ⟨rao, rc, rfl, hrs⟩ := own_sp hM HOM
        have HON := Lib.hid HOM
        have HM := Lib.hid hM
        have HRM := Lib.hid HR2
        clear HOM hrs HOW HR HR2 hM
        have e1 : IntKind.i64.wrap ((i : Int) + 1) = ((i + 1 : Nat) : Int) := by rw [IntWalk.i64_in _ (by omega)]; omega
        have e2 : IntKind.i64.wrap (y - 1) = y - 1 := IntWalk.i64_in _ (by omega)
        have e3 : IntKind.i64.wrap (x - 1) = x - 1 := IntWalk.i64_in _ (by omega)
        obtain ⟨Q, hQ⟩ : ∃ Q : Nat, i + 1 = Q := ⟨_, rfl⟩
        have HQ := Lib.hid hQ
        rw [hQ] at e1
        have k2' := k2
        rw [hQ] at k2'
        have j0 : (0 : Int) ≤ (Q : Int) := by omega
        have j1 : (Q : Int) < (N : Int) := by omega
        clear k2 hQ
        by_cases h0 : r = []
        · have hm0 : M = 0 := by rw [← HM.out, h0]; rfl
          subst hm0
          have HT2 : Hid (∀ h : i + 1 < P.length, Told (Fk k a b) P[i + 1] (r ++ [(x, y - 1)])) := Lib.hid (HNX2.out _ (told_push HTT.out qq q4 HFC.out HF.out (fun o s e => by rw [h0] at e; simp at e)))
          clear h0
          go_upto_region 7 with fail
          go_quiet (fail)
          obtain ⟨V, hV⟩ : ∃ V, W.drewN nq = V := ⟨_, rfl⟩
          have v1 := cell_keep k1 (below_drewN (Below.refl _ W) nq)
          have v2 := cell_keep k2' (below_drewN (Below.refl _ W) nq)
          have HOV := Lib.hid (keepB HON.out (below_drewN (Below.refl _ W) nq))
          have HVV := Lib.hid (below_drewN HWW.out nq)
          rw [hV] at v1 v2 HOV HVV
          rw [hV]
          clear hV k1 k2' HON HWW
          have HCC : Hid (spCells r ++ [.int .i64 x, .int .i64 (y - 1)] = spCells (r ++ [(x, y - 1)])) := Lib.hid (by rw [spCells_snoc])
          have HLL : Hid (0 + 1 = (r ++ [(x, y - 1)]).length) := Lib.hid (by rw [List.length_append, HM.out]; rfl)
          have HR3 : Hid ((r ++ [(x, y - 1)]).length ≤ i + 1) := Lib.hid (by rw [List.length_append, HM.out]; exact Nat.succ_le_succ HRM.out)
          have HE3 : Hid (N = 0 → r ++ [(x, y - 1)] = []) := Lib.hid (fun h => absurd ilt (by rw [h]; exact Nat.not_lt_zero _))
          clear e3
          go_upto_region 9 with fail
          go_region_law (refine step_append_lies _ rfl _ _ 22 rfl w1.heap.size 35 i0 (.agg #[.int .i64 0, .int .i64 0]) 2 16 Try.underlying22 HII.out HZ0.out HZ1.out HZ2.out rfl (by decide) (.slice rao 0 rc) 0 _ rfl (keepB HOV.out (((Below.refl _ V).drew).alloc (Nat.le_refl _) _)) ⟨V.heap.size, 0, none⟩ 1 1 [.int .i64 x, .int .i64 (y - 1)] rfl rfl (cells_new2 V.drew _ _ _) (by intro z hz; simp at hz; rcases hz with rfl | rfl <;> rfl) (by decide) (by unfold maxLen; omega) (by omega) (by have := HVV.out.size; simp; omega) _ rfl ?_; intro g' cap w3 hown hgrow hat hlt; rw [HCC.out] at hown; have HO3 := Lib.hid hown; have HB3 := Lib.hid ((HVV.out.trans ((((Below.refl _ V).drew).alloc (Nat.le_refl _) _).mono HVV.out.size)).grown hgrow (Nat.le_trans HVV.out.size (by simp)) (fun q hq => (HOV.out.lt q hq).1)); clear hown hgrow hat)
          all_goals
            clear e1 e2
            go_wp2
            go_roundw
            case rel => exact ⟨i + 1, _, .inr ilt, by go_num, HR3, Lib.hid (by have q := HO3.out; have q2 := HLL.out; rw [← q2]; exact q), HT2, HE3, HB3⟩
            case measure => simp [intOf]; omega
        · obtain ⟨z, r0, hr⟩ : ∃ z r0, r = r0 ++ [z] := ⟨r.getLast h0, r.dropLast, (List.dropLast_concat_getLast h0).symm⟩
          obtain ⟨kk, hk⟩ : ∃ k, r0.length = k := ⟨_, rfl⟩
          have hmk : M = kk + 1 := by rw [← HM.out, hr]; simp [hk]
          subst hmk
          obtain ⟨gg, rfl⟩ : ∃ g, rao = some ⟨g, 0, none⟩ := by
            rcases HON.out.2 with ⟨e, _⟩ | ⟨g, cap, cur, e, _⟩
            · cases e
            · cases e; exact ⟨g, rfl⟩
          have hkr : kk < r.length := by rw [HM.out]; omega
          have q0 := spCells_at r kk hkr
          have e0 : r[kk] = z := by subst hr; subst hk; simp
          rw [e0] at q0
          obtain ⟨zx, zy⟩ := z
          simp only at q0
          have d2 := HON.out.cellAt (kk * 2 + 1) (by omega)
          rw [q0.2] at d2
          have d3 := HON.out.frozenAt (kk * 2 + 1)
          have hzz := (rt_snoc r0 _ (zx, zy)).1 (by rw [← hr]; exact HTT.out.good)
          have hz0 := nxt_le hzz.1
          have hz1 : -1099511627776 ≤ zy := by have := hzz.2.1; have := hzz.2.2.1; simp only at *; omega
          have hz2 : zy ≤ 1099511627776 := hzz.2.2.2
          clear hzz hz0
          have w1' : IntKind.i64.wrap (((kk + 1 : Nat) : Int) - 1) = (kk : Int) := by rw [IntWalk.i64_in _ (by omega)]; omega
          have k0 : (0 : Int) ≤ (kk : Int) := by omega
          have k1' : (kk : Int) < ((kk + 1 : Nat) : Int) := by omega
          have k2'' : kk < kk + 1 := by omega
          have k3 : (0 : Int) < ((kk + 1 : Nat) : Int) := by omega
          clear q0 e0
          by_cases hcmp : zy = x - 1
          · have HT2 : Hid (∀ h : i + 1 < P.length, Told (Fk k a b) P[i + 1] (r0 ++ [(zx, y - 1)])) := Lib.hid (HNX2.out _ (told_join (by rw [← hr]; exact HTT.out) qq q4 HFC.out HF.out hcmp))
            have HSET : Hid ((spCells r).set (kk * 2 + 1) (.int .i64 (y - 1)) = spCells (r0 ++ [(zx, y - 1)])) := Lib.hid (by
              have hlen : (spCells r0).length = kk * 2 := by rw [spCells_length, hk]
              rw [hr, spCells_snoc, spCells_snoc, List.set_append_right _ _ (by omega), hlen, show kk * 2 + 1 - kk * 2 = 1 by omega]; rfl)
            have HLL : Hid (kk + 1 = (r0 ++ [(zx, y - 1)]).length) := Lib.hid (by simp [hk])
            have tz : (zy == x - 1) = true := by simp; exact hcmp
            clear hcmp hr hk h0
            go_upto_region 7 with fail
            go_quiet (fail)
            obtain ⟨V, hV⟩ : ∃ V, W.drewN nq = V := ⟨_, rfl⟩
            have v1 := cell_keep k1 (below_drewN (Below.refl _ W) nq)
            have v2 := cell_keep k2' (below_drewN (Below.refl _ W) nq)
            have v3 : V.cell? ⟨gg, kk * 2 + 1, none⟩ = some (.int .i64 zy) := by rw [← hV]; exact d2
            have v4 : V.frozen? ⟨gg, kk * 2 + 1, none⟩ = false := by rw [← hV]; exact d3
            have HOV := Lib.hid (keepB HON.out (below_drewN (Below.refl _ W) nq))
            have HVV := Lib.hid (below_drewN HWW.out nq)
            rw [hV] at v1 v2 HOV HVV
            rw [hV]
            clear hV k1 k2' HON HWW d2 d3
            have hst := (HOV.out.stored (kk * 2 + 1) (.int .i64 (y - 1))).1
            rw [HSET.out] at hst
            have HO3 := Lib.hid hst
            have HB3 := Lib.hid (HVV.out.setCell (p := ⟨gg, kk * 2 + 1, none⟩) (HOV.out.lt gg rfl).1 (.int .i64 (y - 1)))
            have HR3 : Hid ((r0 ++ [(zx, y - 1)]).length ≤ i + 1) := Lib.hid (by rw [← HLL.out]; exact Nat.le_succ_of_le HRM.out)
            have HE3 : Hid (N = 0 → r0 ++ [(zx, y - 1)] = []) := Lib.hid (fun h => absurd ilt (by rw [h]; exact Nat.not_lt_zero _))
            clear hst tz e3
            go_upto_region 8 with fail
            go_upto_region 5 with fail
            clear e1 e2 w1'
            go_wp2
            go_roundw
            case rel => exact ⟨i + 1, _, .inr ilt, by go_num, HR3, Lib.hid (by rw [← HLL.out]; exact HO3.out), HT2, HE3, HB3⟩
            case measure => simp [intOf]; omega
          · have HT2 : Hid (∀ h : i + 1 < P.length, Told (Fk k a b) P[i + 1] (r ++ [(x, y - 1)])) := Lib.hid (HNX2.out _ (told_push HTT.out qq q4 HFC.out HF.out (fun o s e => by
              rw [hr] at e
              have := (List.append_inj_right' e rfl)
              cases this
              exact hcmp)))
            have tz : (zy == x - 1) = false := by simp; exact hcmp
            clear hcmp hr hk h0
            go_upto_region 7 with fail
            go_quiet (fail)
            obtain ⟨V, hV⟩ : ∃ V, W.drewN nq = V := ⟨_, rfl⟩
            have v1 := cell_keep k1 (below_drewN (Below.refl _ W) nq)
            have v2 := cell_keep k2' (below_drewN (Below.refl _ W) nq)
            have HOV := Lib.hid (keepB HON.out (below_drewN (Below.refl _ W) nq))
            have HVV := Lib.hid (below_drewN HWW.out nq)
            rw [hV] at v1 v2 HOV HVV
            rw [hV]
            clear hV k1 k2' HON HWW d2 d3
            have HCC : Hid (spCells r ++ [.int .i64 x, .int .i64 (y - 1)] = spCells (r ++ [(x, y - 1)])) := Lib.hid (by rw [spCells_snoc])
            have HLL : Hid ((kk + 1) + 1 = (r ++ [(x, y - 1)]).length) := Lib.hid (by rw [List.length_append, HM.out]; rfl)
            have HR3 : Hid ((r ++ [(x, y - 1)]).length ≤ i + 1) := Lib.hid (by rw [List.length_append, HM.out]; exact Nat.succ_le_succ HRM.out)
            have HE3 : Hid (N = 0 → r ++ [(x, y - 1)] = []) := Lib.hid (fun h => absurd ilt (by rw [h]; exact Nat.not_lt_zero _))
            clear tz e3
            go_upto_region 9 with fail
            go_region_law (refine step_append_lies _ rfl _ _ 22 rfl w1.heap.size 35 i0 (.agg #[.int .i64 0, .int .i64 0]) 2 16 Try.underlying22 HII.out HZ0.out HZ1.out HZ2.out rfl (by decide) (.slice (some ⟨gg, 0, none⟩) (kk + 1) rc) (kk + 1) _ rfl (keepB HOV.out (((Below.refl _ V).drew).alloc (Nat.le_refl _) _)) ⟨V.heap.size, 0, none⟩ 1 1 [.int .i64 x, .int .i64 (y - 1)] rfl rfl (cells_new2 V.drew _ _ _) (by intro z hz; simp at hz; rcases hz with rfl | rfl <;> rfl) (by decide) (by unfold maxLen; omega) (by omega) (by have := HVV.out.size; simp; omega) _ rfl ?_; intro g' cap w3 hown hgrow hat hlt; rw [HCC.out] at hown; have HO3 := Lib.hid hown; have HB3 := Lib.hid ((HVV.out.trans ((((Below.refl _ V).drew).alloc (Nat.le_refl _) _).mono HVV.out.size)).grown hgrow (Nat.le_trans HVV.out.size (by simp)) (fun q hq => (HOV.out.lt q hq).1)); clear hown hgrow hat)
            all_goals
              clear e1 e2
              go_wp2
              go_roundw
              case rel => exact ⟨i + 1, _, .inr ilt, by go_num, HR3, Lib.hid (by have q := HO3.out; have q2 := HLL.out; rw [← q2]; exact q), HT2, HE3, HB3⟩
              case measure => simp [intOf]; omega
    · have HX : Hid (Good r ∧ ∀ t, mem r t ↔ Fk k a b t = true) := Lib.hid (by
        by_cases h0 : N = 0
        · have := HE.out h0; subst this
          exact ⟨trivial, told_none PL.out SA.out SB.out (by rw [HN.out]; exact h0)⟩
        · have e : i = P.length - 1 := by rw [HN.out]; omega
          have ht := HT.out (by rw [HN.out]; omega)
          subst e
          exact told_end PL.out SA.out SB.out (by rw [HN.out]; omega) ht)
      have HRN : Hid (r.length ≤ 2 * n + 2 * m) := Lib.hid (by have := HPN.out; have := HR.out; omega)
      have HWW := Lib.hid (HB1.out.trans (HW.out.mono HB1.out.size))
      have HOO := Lib.hid (World.ownsRow.mono HO.out HB1.out.size)
      clear HT HE
      go_wp2
      go_returns
      exact ⟨_, r, rfl, HX.out.1, HX.out.2, HRN.out, HOO.out, HWW.out⟩
end Go.Proofs.Ythjpnnggghfepaa
