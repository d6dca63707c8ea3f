/- FormTurns: the walk. -/
import Derived.Test.YtijpejjkbioekaaL3
namespace Go.Proofs.Ytijpejjkbioekaa
set_option linter.unusedVariables false
set_option linter.unusedSimpArgs false
open Go.ChangeShapes Go.WideShapes Go.ChangeAt Go.RowKit
theorem tmod_bound (i : Int) : -1048576 < i.tmod 1048576 ∧ i.tmod 1048576 < 1048576 := by
  have := Int.tmod_lt_of_pos i (show (0 : Int) < 1048576 by decide)
  have h2 := Int.lt_tmod_of_pos i (show (0 : Int) < 1048576 by decide)
  omega
/-- A turn further the core's set is the same, a period later. -/
theorem cg_turn {cs : List (List Sp)} {P N k : Int} (h : 0 < N ∧ N = cs.length) : cg cs P N (k + N) = moved (cg cs P N k) P := by
  unfold cg cset
  rw [if_pos h, if_pos h]
  have h1 : (k + N).fmod N = k.fmod N := by
    rw [Int.add_fmod_right]
  have h2 : (k + N).fdiv N = k.fdiv N + 1 := by
    have e1 := fmod_eq k N
    have e2 := fmod_eq (k + N) N
    rw [h1] at e2
    have : N * (k + N).fdiv N = N * (k.fdiv N + 1) := by rw [Int.mul_add, Int.mul_one]; omega
    exact Int.eq_of_mul_eq_mul_left (by omega) this
  rw [h1, h2]
  unfold moved
  rw [List.map_map]
  apply List.map_congr_left
  intro s _
  simp only [Function.comp, Int.mul_add, Int.mul_one, Prod.mk.injEq]
  omega
theorem gr_len {F : Fv} (h : F.Ok) (i : Int) : (gr F i).length ≤ 1000000 := by
  unfold gr
  cases e : exc F.os i with
  | some l =>
    obtain ⟨n, hn, h1, h2⟩ := exc_some e
    rw [← h2]; exact h.lenO _ (List.getElem_mem hn)
  | none =>
    show (cg F.cs F.P F.N i).length ≤ 1000000
    unfold cg
    split
    · rw [moved_length]
      unfold cset
      rw [List.getD_eq_getElem?_getD]
      cases e2 : F.cs[(i.fmod F.N).toNat]? with
      | none => simp
      | some l => exact h.lenC _ (List.mem_of_getElem? e2)
    · simp
set_option maxRecDepth 8000 in
set_option maxHeartbeats 4000000 in
theorem turns_all (F : Fv) (i0 : Int) (w : World) (hF : F.At w) (hi1 : -2147483648 ≤ i0) (hi2 : i0 ≤ 2147483647) :
    Calls Try.prog 4 #[F.v, .int .i32 i0] w fun e w' => e = .returned (.bool true) ∧ Below w.heap.size w w' := by
  have HAW := Lib.hid (fun W => awake_any W)
  obtain ⟨r, hr⟩ : ∃ r : Bool, r = true ↔ F.Small ∧ F.Rt := by classical exact ⟨decide _, decide_eq_true_iff⟩
  have HRI := Lib.hid (fun W h => right_any2 F W h r hr)
  have HR := Lib.hid hr
  obtain ⟨k, hk⟩ : ∃ q, i0.tmod 1048576 = q := ⟨_, rfl⟩
  have hkb := tmod_bound i0
  rw [hk] at hkb
  obtain ⟨kb1, kb2⟩ := hkb
  obtain ⟨P, N, co, cn, cc, oo, on, oc, cs, os⟩ := F
  have LC : Hid (cs.length = cn) := Lib.hid hF.core.len
  have LO : Hid (os.length = on) := Lib.hid hF.odd.len
  have hmc : cn ≤ 9223372036854775807 := Nat.le_trans hF.core.le hF.core.top
  have hmo : on ≤ 9223372036854775807 := Nat.le_trans hF.odd.le hF.odd.top
  obtain ⟨b, hb⟩ : ∃ b, w.heap.size = b := ⟨_, rfl⟩
  obtain ⟨wb, hwb⟩ : ∃ wb, w.alloc (.cells #[.int .i64 P, .int .i64 N, .slice co cn cc, .slice oo on oc] 25) = wb := ⟨_, rfl⟩
  have HBB : Hid (Fbox ⟨P, N, co, cn, cc, oo, on, oc, cs, os⟩ w wb b) := Lib.hid (by rw [← hwb, ← hb]; exact fbox_new hF)
  clear hF
  show Calls Try.prog 4 #[.agg #[.int .i64 P, .int .i64 N, .slice co cn cc, .slice oo on oc], .int .i32 i0] w _
  go_enter Try.func4, Try.ntmps4
  go_upto_region 1 with fail
  clear hwb hb
  have e0 : wb.cell? ⟨b, 0, none⟩ = some (.int .i64 P) := HBB.out.c0
  have e1 : wb.cell? ⟨b, 1, none⟩ = some (.int .i64 N) := HBB.out.c1
  have e2 : wb.cell? ⟨b, 2, none⟩ = some (.slice co cn cc) := HBB.out.c2
  have e3 : wb.cell? ⟨b, 3, none⟩ = some (.slice oo on oc) := HBB.out.c3
  have HRI : Hid (∀ W, Fv.At ⟨P, N, co, cn, cc, oo, on, oc, cs, os⟩ W → Calls Try.prog 7 #[.agg #[.int .i64 P, .int .i64 N, .slice co cn cc, .slice oo on oc]] W fun e w' => e = .returned (.bool r) ∧ Below W.heap.size W w') := HRI
  go_wp2_with fail
  (with_reducible refine (HRI.out _ HBB.out.at_).mono ?_)
  rintro e w2 ⟨rfl, q⟩
  have HBB := Lib.hid (HBB.out.keep q)
  clear q e0 e1 e2 e3
  cases r
  · have HE : Hid (True) := Lib.hid trivial
    clear HR
    go_wp2_with fail
    (with_reducible refine (HAW.out _).mono ?_)
    rintro e w9 ⟨rfl, q⟩
    have HBB := Lib.hid (HBB.out.keep q)
    clear q
    go_wp2
    go_returns
    exact ⟨rfl, HBB.out.bw⟩
  · have HRT : Hid (Fv.Small ⟨P, N, co, cn, cc, oo, on, oc, cs, os⟩ ∧ Fv.Rt ⟨P, N, co, cn, cc, oo, on, oc, cs, os⟩) := Lib.hid (hr.1 rfl)
    have hmm : Fv.Meas ⟨P, N, co, cn, cc, oo, on, oc, cs, os⟩ := HRT.out.2.meas
    have hsm : cn ≤ 12 := HRT.out.1.1
    clear HR hr
    by_cases n0 : N = 0
    · subst n0
      have e0 : w2.cell? ⟨b, 0, none⟩ = some (.int .i64 P) := HBB.out.c0
      have e1 : w2.cell? ⟨b, 1, none⟩ = some (.int .i64 0) := HBB.out.c1
      have e2 : w2.cell? ⟨b, 2, none⟩ = some (.slice co cn cc) := HBB.out.c2
      have e3 : w2.cell? ⟨b, 3, none⟩ = some (.slice oo on oc) := HBB.out.c3
      clear hmm HRT
      go_wp2_with fail
      (with_reducible refine (HAW.out _).mono ?_)
      rintro e w9 ⟨rfl, q⟩
      have HBB := Lib.hid (HBB.out.keep q)
      clear q
      go_wp2
      go_returns
      exact ⟨rfl, HBB.out.bw⟩
    · have t0 : (N == 0) = false := by simp; exact n0
      obtain ⟨m1, m2, m3⟩ : N = (cn : Int) ∧ 1 ≤ P ∧ P ≤ 1099511627776 := by
        rcases hmm with ⟨h, _⟩ | ⟨_, h1, h2, h3⟩
        · exact absurd h n0
        · exact ⟨h1, h2, h3⟩
      subst m1
      have np : 0 < cn := by omega
      have HNP := Lib.hid np
      clear n0 hmm
      obtain ⟨k2, hk2⟩ : ∃ q, k + (cn : Int) = q := ⟨_, rfl⟩
      have kb3 : -1048576 < k2 ∧ k2 < 1048600 := by omega
      obtain ⟨x1, hx1⟩ : ∃ r : Bool, r = true ↔ ∃ o ∈ os, o.1 = k := by classical exact ⟨decide _, decide_eq_true_iff⟩
      obtain ⟨x2, hx2⟩ : ∃ r : Bool, r = true ↔ ∃ o ∈ os, o.1 = k2 := by classical exact ⟨decide _, decide_eq_true_iff⟩
      have HO1 : Hid (∀ W, Fv.At ⟨P, (cn : Int), co, cn, cc, oo, on, oc, cs, os⟩ W → Calls Try.prog 13 #[.agg #[.int .i64 P, .int .i64 (cn : Int), .slice co cn cc, .slice oo on oc], .int .i64 k] W fun e w' => e = .returned (.bool x1) ∧ Below W.heap.size W w') := Lib.hid (fun W h => oddL_any ⟨P, (cn : Int), co, cn, cc, oo, on, oc, cs, os⟩ k W h x1 hx1)
      have HO2 : Hid (∀ W, Fv.At ⟨P, (cn : Int), co, cn, cc, oo, on, oc, cs, os⟩ W → Calls Try.prog 13 #[.agg #[.int .i64 P, .int .i64 (cn : Int), .slice co cn cc, .slice oo on oc], .int .i64 k2] W fun e w' => e = .returned (.bool x2) ∧ Below W.heap.size W w') := Lib.hid (fun W h => oddL_any ⟨P, (cn : Int), co, cn, cc, oo, on, oc, cs, os⟩ k2 W h x2 hx2)
      have HX1 := Lib.hid hx1
      have HX2 := Lib.hid hx2
      have HK2 := Lib.hid hk2
      clear hx1 hx2
      have e0 : w2.cell? ⟨b, 0, none⟩ = some (.int .i64 P) := HBB.out.c0
      have e1 : w2.cell? ⟨b, 1, none⟩ = some (.int .i64 (cn : Int)) := HBB.out.c1
      have e2 : w2.cell? ⟨b, 2, none⟩ = some (.slice co cn cc) := HBB.out.c2
      have e3 : w2.cell? ⟨b, 3, none⟩ = some (.slice oo on oc) := HBB.out.c3
      go_wp2_with fail
      (with_reducible refine (HO1.out _ HBB.out.at_).mono ?_)
      rintro e w3 ⟨rfl, q⟩
      have HBB := Lib.hid (HBB.out.keep q)
      try clear e0 e1 e2 e3
      clear q
      cases x1
      · skip
        have e0 : w3.cell? ⟨b, 0, none⟩ = some (.int .i64 P) := HBB.out.c0
        have e1 : w3.cell? ⟨b, 1, none⟩ = some (.int .i64 (cn : Int)) := HBB.out.c1
        have e2 : w3.cell? ⟨b, 2, none⟩ = some (.slice co cn cc) := HBB.out.c2
        have e3 : w3.cell? ⟨b, 3, none⟩ = some (.slice oo on oc) := HBB.out.c3
        go_wp2_with fail
        (with_reducible refine (HO2.out _ HBB.out.at_).mono ?_)
        rintro e w4 ⟨rfl, q⟩
        have HBB := Lib.hid (HBB.out.keep q)
        try clear e0 e1 e2 e3
        clear q
        cases x2
        · skip
          have HXN1 : Hid (exc os k = none) := Lib.hid (exc_none.2 (fun o ho e => by have := HX1.out.2 ⟨o, ho, e⟩; cases this))
          have HXN2 : Hid (exc os k2 = none) := Lib.hid (exc_none.2 (fun o ho e => by have := HX2.out.2 ⟨o, ho, e⟩; cases this))
          have HOK := Lib.hid (HRT.out.2.ok HRT.out.1)
          obtain ⟨A, hA⟩ : ∃ q, gr ⟨P, (cn : Int), co, cn, cc, oo, on, oc, cs, os⟩ k = q := ⟨_, rfl⟩
          obtain ⟨B, hB⟩ : ∃ q, gr ⟨P, (cn : Int), co, cn, cc, oo, on, oc, cs, os⟩ k2 = q := ⟨_, rfl⟩
          have HAB : Hid (B = moved A P) := Lib.hid (by
            have h1 : gr ⟨P, (cn : Int), co, cn, cc, oo, on, oc, cs, os⟩ k = cg cs P (cn : Int) k := gr_free HXN1.out
            have h2 : gr ⟨P, (cn : Int), co, cn, cc, oo, on, oc, cs, os⟩ k2 = cg cs P (cn : Int) k2 := gr_free HXN2.out
            rw [← hA, ← hB, h1, h2, ← HK2.out]
            exact cg_turn ⟨by have := HNP.out; omega, by rw [LC.out]⟩)
          have HLA : Hid (A.length ≤ 1000000) := Lib.hid (by rw [← hA]; exact gr_len HOK.out k)
          have HGA : Hid (Told k A → Good A) := Lib.hid (fun h => by rw [← hA] at h ⊢; exact gr_good HOK.out h.2)
          have HG1 : Hid (∀ W, Fv.At ⟨P, (cn : Int), co, cn, cc, oo, on, oc, cs, os⟩ W → Calls Try.prog 9 #[.agg #[.int .i64 P, .int .i64 (cn : Int), .slice co cn cc, .slice oo on oc], .int .i64 k] W fun e w' => ∃ (ao : Option Addr) (n c : Nat) (L : List Sp) (z : Int), e = .returned (.tuple #[.slice ao n c, .int .i64 z]) ∧ Hid (Below W.heap.size W w') ∧ Hid (SpAt w' ao n c L) ∧ ((z = 0 ∧ Hid (Told k A ∧ L = A)) ∨ (z = 20 ∧ n = 0 ∧ Hid (¬ Told k A)))) := Lib.hid (fun W h => get_any2 ⟨P, (cn : Int), co, cn, cc, oo, on, oc, cs, os⟩ k W h HOK.out A hA)
          have HG2 : Hid (∀ W, Fv.At ⟨P, (cn : Int), co, cn, cc, oo, on, oc, cs, os⟩ W → Calls Try.prog 9 #[.agg #[.int .i64 P, .int .i64 (cn : Int), .slice co cn cc, .slice oo on oc], .int .i64 k2] W fun e w' => ∃ (ao : Option Addr) (n c : Nat) (L : List Sp) (z : Int), e = .returned (.tuple #[.slice ao n c, .int .i64 z]) ∧ Hid (Below W.heap.size W w') ∧ Hid (SpAt w' ao n c L) ∧ ((z = 0 ∧ Hid (Told k2 B ∧ L = B)) ∨ (z = 20 ∧ n = 0 ∧ Hid (¬ Told k2 B)))) := Lib.hid (fun W h => get_any2 ⟨P, (cn : Int), co, cn, cc, oo, on, oc, cs, os⟩ k2 W h HOK.out B hB)
          clear hA hB HX1 HX2 HXN1 HXN2 HRT HRI HO1 HO2
          have e0 : w4.cell? ⟨b, 0, none⟩ = some (.int .i64 P) := HBB.out.c0
          have e1 : w4.cell? ⟨b, 1, none⟩ = some (.int .i64 (cn : Int)) := HBB.out.c1
          have e2 : w4.cell? ⟨b, 2, none⟩ = some (.slice co cn cc) := HBB.out.c2
          have e3 : w4.cell? ⟨b, 3, none⟩ = some (.slice oo on oc) := HBB.out.c3
          go_wp2_with fail
          (with_reducible refine (HG1.out _ HBB.out.at_).mono ?_)
          rintro e w5 ⟨a1, n1, c1, L1, r1, rfl, q, HS1, HR1⟩
          have HBB := Lib.hid (HBB.out.keep q.out)
          try clear e0 e1 e2 e3
          clear q
          have e0 : w5.cell? ⟨b, 0, none⟩ = some (.int .i64 P) := HBB.out.c0
          have e1 : w5.cell? ⟨b, 1, none⟩ = some (.int .i64 (cn : Int)) := HBB.out.c1
          have e2 : w5.cell? ⟨b, 2, none⟩ = some (.slice co cn cc) := HBB.out.c2
          have e3 : w5.cell? ⟨b, 3, none⟩ = some (.slice oo on oc) := HBB.out.c3
          go_wp2_with fail
          (with_reducible refine (HG2.out _ HBB.out.at_).mono ?_)
          rintro e w6 ⟨a2, n2, c2, L2, r2, rfl, q, HS2, HR2⟩
          have HBB := Lib.hid (HBB.out.keep q.out)
          try clear e0 e1 e2 e3
          have HS1 := Lib.hid (HS1.out.keep q.out)
          clear q HG1 HG2
          rcases HR1 with ⟨rfl, HT1⟩ | ⟨rfl, rfl, HT1⟩
          · rcases HR2 with ⟨rfl, HT2⟩ | ⟨rfl, rfl, HT2⟩
            · obtain ⟨h1, rfl⟩ := HT1.out
              obtain ⟨h2, rfl⟩ := HT2.out
              have HOKS : Hid (∀ s ∈ L1, okSp P s) := Lib.hid (by have h := h2.2; rw [HAB.out] at h; exact (fit_moved _ _).1 h)
              have HNL := Lib.hid HS1.out.len
              have HMV := Lib.hid (move_any a1 n1 c1 L1 (HGA.out h1) (by rw [← HNL.out]; exact HLA.out) P (by omega) (by omega) w6 HS1.out)
              have e0 : w6.cell? ⟨b, 0, none⟩ = some (.int .i64 P) := HBB.out.c0
              clear h1 h2 HT1 HT2
              go_wp2_with fail
              (with_reducible refine (HMV.out).mono ?_)
              rintro e w7 ⟨v, z6, rfl, q, HV⟩
              have HBB := Lib.hid (HBB.out.keep q)
              try clear e0 e1 e2 e3
              obtain ⟨rfl, z⟩ : z6 = 0 ∧ w7.ownsRow w6.heap.size 43 2 v n1 (spCells (moved L1 P)) := by
                rcases HV with ⟨_, h1, h2⟩ | ⟨⟨s, hs, hn⟩, _⟩
                · exact ⟨h1, h2⟩
                · exact absurd (HOKS.out s hs) hn
              obtain ⟨ao, c, rfl, hsp⟩ := own_sp (by rw [moved_length]; exact HNL.out) z
              have HSM := Lib.hid (same_any ao a2 n1 c n2 c2 (moved L1 P) L2 w7 hsp (HS2.out.keep q) true ⟨fun _ => HAB.out.symm, fun _ => rfl⟩)
              clear q HV z hsp HMV HOKS HNL
              go_wp2_with fail
              (with_reducible refine (HSM.out).mono ?_)
              rintro e w8 ⟨rfl, q⟩
              have HBB := Lib.hid (HBB.out.keep q)
              try clear e0 e1 e2 e3
              clear q HSM
              go_wp2_with fail
              (with_reducible refine (HAW.out _).mono ?_)
              rintro e w9 ⟨rfl, q⟩
              have HBB := Lib.hid (HBB.out.keep q)
              clear q
              go_wp2
              go_returns
              exact ⟨rfl, HBB.out.bw⟩
            · clear HT1 HT2 HS1 HS2
              go_wp2_with fail
              (with_reducible refine (HAW.out _).mono ?_)
              rintro e w9 ⟨rfl, q⟩
              have HBB := Lib.hid (HBB.out.keep q)
              clear q
              go_wp2
              go_returns
              exact ⟨rfl, HBB.out.bw⟩
          · clear HT1 HR2 HS1 HS2
            go_wp2_with fail
            (with_reducible refine (HAW.out _).mono ?_)
            rintro e w9 ⟨rfl, q⟩
            have HBB := Lib.hid (HBB.out.keep q)
            clear q
            go_wp2
            go_returns
            exact ⟨rfl, HBB.out.bw⟩
        · skip
          go_wp2_with fail
          (with_reducible refine (HAW.out _).mono ?_)
          rintro e w9 ⟨rfl, q⟩
          have HBB := Lib.hid (HBB.out.keep q)
          clear q
          go_wp2
          go_returns
          exact ⟨rfl, HBB.out.bw⟩
      · skip
        go_wp2_with fail
        (with_reducible refine (HAW.out _).mono ?_)
        rintro e w9 ⟨rfl, q⟩
        have HBB := Lib.hid (HBB.out.keep q)
        clear q
        go_wp2
        go_returns
        exact ⟨rfl, HBB.out.bw⟩
end Go.Proofs.Ytijpejjkbioekaa
