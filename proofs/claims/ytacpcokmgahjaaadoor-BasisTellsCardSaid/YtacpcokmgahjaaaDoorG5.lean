/- Contracts: rising. -/
import Derived.Test.YtacpcokmgahjaaaDoorG4
namespace Go.Proofs.YtacpcokmgahjaaaDoor
set_option linter.unusedVariables false
set_option linter.unusedSimpArgs false
open Go.ChangeShapes Go.WideShapes Go.ChangeAt Go.RowKit
/-- Are the sets of a core in order, those of its next turn behind them? -/
structure RisOk (cs : List (List Sp)) (P : Int) : Prop where
  order : cs.Pairwise Ahd
  turn : ∀ a ∈ cs, ∀ b ∈ cs, ∀ s ∈ a, ∀ u ∈ b, s.2 < u.1 + P
/-- The last and the first set with ticks, so far. -/
structure LastIs (cs : List (List Sp)) (L : List Sp) : Prop where
  good : Good L
  top : ∀ a ∈ cs, ∀ s ∈ a, L ≠ [] ∧ s.2 ≤ hullB L
  here : L ≠ [] → L ∈ cs
structure FirstIs (cs : List (List Sp)) (L : List Sp) : Prop where
  good : Good L
  low : ∀ a ∈ cs, ∀ s ∈ a, L ≠ [] ∧ hullA L ≤ s.1
  here : L ≠ [] → L ∈ cs
theorem hullB_mem {L : List Sp} (h : L ≠ []) : ∃ s ∈ L, s.2 = hullB L := by
  have hl : 0 < L.length := List.length_pos_iff.2 h
  refine ⟨L[L.length - 1]'(by omega), List.getElem_mem _, ?_⟩
  unfold hullB; rw [List.getD_eq_getElem?_getD, List.getElem?_eq_getElem (by omega)]; rfl
theorem hullA_mem {L : List Sp} (h : L ≠ []) : ∃ s ∈ L, s.1 = hullA L := by
  have hl : 0 < L.length := List.length_pos_iff.2 h
  refine ⟨L[0]'hl, List.getElem_mem _, ?_⟩
  unfold hullA; rw [List.getD_eq_getElem?_getD, List.getElem?_eq_getElem (by omega)]; rfl
theorem le_hullB {L : List Sp} (g : Good L) {s : Sp} (hs : s ∈ L) : s.2 ≤ hullB L := by
  have h : L ≠ [] := fun e => by rw [e] at hs; cases hs
  obtain ⟨i, hi, rfl⟩ := List.getElem_of_mem hs
  have e1 : hullB L = (L[L.length - 1]'(by omega)).2 := by unfold hullB; rw [List.getD_eq_getElem?_getD, List.getElem?_eq_getElem (by omega)]; rfl
  rw [e1]
  exact good_le g i (L.length - 1) hi (by omega) (by omega)
theorem hullA_le {L : List Sp} (g : Good L) {s : Sp} (hs : s ∈ L) : hullA L ≤ s.1 := by
  have h : L ≠ [] := fun e => by rw [e] at hs; cases hs
  obtain ⟨i, hi, rfl⟩ := List.getElem_of_mem hs
  have e1 : hullA L = (L[0]'(by omega)).1 := by unfold hullA; rw [List.getD_eq_getElem?_getD, List.getElem?_eq_getElem (by omega)]; rfl
  rw [e1]
  by_cases w : i = 0
  · subst w; exact Int.le_refl _
  · have := good_lt g 0 i (by omega) hi (by omega)
    have := good_at g 0 (by omega)
    omega
theorem last_step {cs : List (List Sp)} {L l : List Sp} (h : LastIs cs L) (ho : Ahd L l) (gl : Good l) : LastIs (cs ++ [l]) (if l ≠ [] then l else L) := by
  by_cases e : l = []
  · rw [if_neg (by simp [e])]
    refine ⟨h.good, fun a ha s hs => ?_, fun q => List.mem_append.2 (.inl (h.here q))⟩
    rcases List.mem_append.1 ha with ha | ha
    · exact h.top a ha s hs
    · rw [List.mem_singleton.1 ha, e] at hs; cases hs
  · rw [if_pos e]
    refine ⟨gl, fun a ha s hs => ⟨e, ?_⟩, fun _ => by simp⟩
    rcases List.mem_append.1 ha with ha | ha
    · obtain ⟨q1, q2⟩ := h.top a ha s hs
      obtain ⟨x, hx, ex⟩ := hullB_mem q1
      obtain ⟨y, hy, ey⟩ := hullA_mem e
      have := ho x hx y hy
      have h3 := le_hullB gl hy
      obtain ⟨i, hi, rfl⟩ := List.getElem_of_mem hy
      have := (good_at gl i hi).2.1
      omega
    · rw [List.mem_singleton.1 ha] at hs; exact le_hullB gl hs
theorem first_step {cs : List (List Sp)} {F L l : List Sp} (h : FirstIs cs F) (hL : LastIs cs L) (ho : Ahd L l) (gl : Good l) : FirstIs (cs ++ [l]) (if F = [] then l else F) := by
  by_cases e : F = []
  · rw [if_pos e]
    refine ⟨gl, fun a ha s hs => ?_, fun q => by simp⟩
    rcases List.mem_append.1 ha with ha | ha
    · exact absurd e (h.low a ha s hs).1
    · rw [List.mem_singleton.1 ha] at hs
      exact ⟨fun z => by (rw [z] at hs; cases hs), hullA_le gl hs⟩
  · rw [if_neg e]
    refine ⟨h.good, fun a ha s hs => ⟨e, ?_⟩, fun q => List.mem_append.2 (.inl (h.here q))⟩
    rcases List.mem_append.1 ha with ha | ha
    · exact (h.low a ha s hs).2
    · rw [List.mem_singleton.1 ha] at hs
      obtain ⟨y, hy, ey⟩ := hullA_mem e
      obtain ⟨q1, q2⟩ := hL.top F (h.here e) y hy
      obtain ⟨x, hx, ex⟩ := hullB_mem q1
      have := ho x hx s hs
      obtain ⟨i, hi, rfl⟩ := List.getElem_of_mem hy
      have := (good_at h.good i hi).2.1
      omega
theorem order_step {cs : List (List Sp)} {L l : List Sp} (h : cs.Pairwise Ahd) (hL : LastIs cs L) : (cs ++ [l]).Pairwise Ahd ↔ Ahd L l := by
  rw [List.pairwise_append]
  constructor
  · rintro ⟨_, _, q⟩
    intro s hs
    have e : L ≠ [] := fun z => by rw [z] at hs; cases hs
    exact q L (hL.here e) l (by simp) s hs
  · intro q
    refine ⟨h, by simp, fun a ha b hb => ?_⟩
    rw [List.mem_singleton.1 hb]
    intro s hs u hu
    obtain ⟨q1, q2⟩ := hL.top a ha s hs
    obtain ⟨x, hx, ex⟩ := hullB_mem q1
    have := q x hx u hu
    omega
theorem turn_iff {cs : List (List Sp)} {F L : List Sp} {P : Int} (hF : FirstIs cs F) (hL : LastIs cs L) (e : F ≠ []) : (∀ a ∈ cs, ∀ b ∈ cs, ∀ s ∈ a, ∀ u ∈ b, s.2 < u.1 + P) ↔ hullB L - P < hullA F := by
  obtain ⟨y, hy, ey⟩ := hullA_mem e
  obtain ⟨q1, _⟩ := hL.top F (hF.here e) y hy
  obtain ⟨x, hx, ex⟩ := hullB_mem q1
  constructor
  · intro h
    have := h L (hL.here q1) F (hF.here e) x hx y hy
    omega
  · intro h a ha b hb s hs u hu
    have := (hL.top a ha s hs).2
    have := (hF.low b hb u hu).2
    omega
theorem turn_none {cs : List (List Sp)} {F : List Sp} {P : Int} (hF : FirstIs cs F) (e : F = []) : ∀ a ∈ cs, ∀ b ∈ cs, ∀ s ∈ a, ∀ u ∈ b, s.2 < u.1 + P := fun a ha b hb s hs u hu => absurd e (hF.low a ha s hs).1
theorem last_nil : LastIs [] [] := ⟨trivial, (fun a ha => by cases ha), fun h => absurd rfl h⟩
theorem first_nil : FirstIs [] [] := ⟨trivial, (fun a ha => by cases ha), fun h => absurd rfl h⟩
set_option maxHeartbeats 2000000 in
theorem rising_any (F : Fv) (w : World) (hF : F.At w) (hg : ∀ l ∈ F.cs, Good l) (hp0 : 0 ≤ F.P) (hp1 : F.P ≤ 1099511627776) (r : Bool) (hr : r = true ↔ RisOk F.cs F.P) :
    Calls Tryd.prog 31 #[F.v] w fun e w' => e = .returned (.bool r) ∧ Below w.heap.size w w' := by
  have HR := Lib.hid hr
  have HG := Lib.hid hg
  clear hr hg
  obtain ⟨P, N, co, cn, cc, oo, on, oc, cs, os⟩ := F
  have LC : Hid (cs.length = cn) := Lib.hid hF.core.len
  have LO : Hid (os.length = on) := Lib.hid hF.odd.len
  have hmc : cn ≤ 9223372036854775807 := Nat.le_trans hF.core.le hF.core.top
  have hmo : on ≤ 9223372036854775807 := Nat.le_trans hF.odd.le hF.odd.top
  obtain ⟨b, hb⟩ : ∃ b, w.heap.size = b := ⟨_, rfl⟩
  obtain ⟨wb, hwb⟩ : ∃ wb, w.alloc (.cells #[.int .i64 P, .int .i64 N, .slice co cn cc, .slice oo on oc] 29) = wb := ⟨_, rfl⟩
  have HBB : Hid (Fbox ⟨P, N, co, cn, cc, oo, on, oc, cs, os⟩ w wb b) := Lib.hid (by rw [← hwb, ← hb]; exact fbox_new hF)
  clear hF
  show Calls Tryd.prog 31 #[.agg #[.int .i64 P, .int .i64 N, .slice co cn cc, .slice oo on oc]] w _
  go_enter Tryd.func31, Tryd.ntmps31
  go_upto_region 1 with fail
  clear hwb hb
  have HR : Hid (r = true ↔ RisOk cs P) := HR
  have HG : Hid (∀ l ∈ cs, Good l) := HG
  have hp0 : 0 ≤ P := hp0
  have hp1 : P ≤ 1099511627776 := hp1
  have e2 : wb.cell? ⟨b, 2, none⟩ = some (.slice co cn cc) := HBB.out.c2
  go_wp2
  clear e2
  go_loopw [3, 4, 10] (fun vf vl ii wr => ∃ (i : Nat) (fo lo : Option Addr) (fn fc ln lc : Nat) (A B : List Sp), i ≤ cn ∧ ii = .int .i64 i ∧ vf = .slice fo fn fc ∧ vl = .slice lo ln lc ∧ Hid (SpAt wr fo fn fc A) ∧ Hid (SpAt wr lo ln lc B) ∧ Hid ((cs.take i).Pairwise Ahd) ∧ Hid (FirstIs (cs.take i) A) ∧ Hid (LastIs (cs.take i) B) ∧ Hid (Fbox ⟨P, N, co, cn, cc, oo, on, oc, cs, os⟩ w wr b)) (fun _ _ ii _ => cn - (intOf ii).toNat)
  case atStart => exact ⟨0, none, none, 0, 0, 0, 0, [], [], Nat.zero_le _, rfl, rfl, rfl, Lib.hid (SpAt.nil _), Lib.hid (SpAt.nil _), Lib.hid List.Pairwise.nil, Lib.hid first_nil, Lib.hid last_nil, HBB⟩
  case round =>
    obtain ⟨i, fo, lo, fn, fc, ln, lc, A, B, hi, rfl, rfl, rfl, HA, HB, HO, HFI, HLA, HW⟩ := hrel
    by_cases ilt : i < cn
    · obtain ⟨g, p, rfl, hc⟩ := (show CoAt wr co cn cc cs from HW.out.at_.core).here (by omega)
      have hil : i < cs.length := by rw [LC.out]; exact ilt
      obtain ⟨o, m, d, d1, d2⟩ := hc i hil
      have HTS := Lib.hid (List.take_succ_eq_append_getElem hil)
      have HGL := Lib.hid (HG.out _ (List.getElem_mem hil))
      obtain ⟨l, hl⟩ : ∃ z, cs[i] = z := ⟨_, rfl⟩
      rw [hl] at d2 HTS HGL
      obtain ⟨q, hq⟩ : ∃ q : Bool, q = true ↔ Ahd B l := by classical exact ⟨decide _, decide_eq_true_iff⟩
      have HQ := Lib.hid hq
      have HL := Lib.hid d2
      have HLL := Lib.hid d2.len
      have HFL := Lib.hid HA.out.len
      have i0 : (0 : Int) ≤ (i : Int) := by omega
      have i1 : (i : Int) < (cn : Int) := by omega
      clear hc hl d2 hq
      clear hil
      go_wp2_with fail
      (with_reducible refine (ahead_any lo o ln lc m d B l _ HB.out HL.out HLA.out.good HGL.out q HQ.out).mono ?_)
      rintro e w2 ⟨rfl, k⟩
      have HA := Lib.hid (HA.out.keep k)
      have HB := Lib.hid (HB.out.keep k)
      have HL := Lib.hid (HL.out.keep k)
      have HW := Lib.hid (HW.out.keep k)
      clear k d1
      cases q
      · have HF : Hid (false = r) := Lib.hid (by
          cases r
          · rfl
          · have h := (HR.out.1 rfl).order
            rw [← List.take_append_drop (i + 1) cs, HTS.out] at h
            have := HQ.out.2 ((order_step HO.out HLA.out).1 (List.pairwise_append.1 h).1)
            cases this)
        clear HQ
        go_wp2
        go_returns
        exact ⟨ret_bool (by rw [← HF.out]), HW.out.bw⟩
      · have HAL := Lib.hid (HQ.out.1 rfl)
        have HO2 : Hid ((cs.take (i + 1)).Pairwise Ahd) := Lib.hid (by rw [HTS.out]; exact (order_step HO.out HLA.out).2 HAL.out)
        have HL2 : Hid (LastIs (cs.take (i + 1)) (if l ≠ [] then l else B)) := Lib.hid (by rw [HTS.out]; exact last_step HLA.out HAL.out HGL.out)
        have HF2 : Hid (FirstIs (cs.take (i + 1)) (if A = [] then l else A)) := Lib.hid (by rw [HTS.out]; exact first_step HFI.out HLA.out HAL.out HGL.out)
        clear HQ HTS HO HFI HLA
        by_cases h1 : l = []
        · have m0 : m = 0 := by rw [← HLL.out, h1]; rfl
          subst m0
          by_cases h2 : A = []
          · have f0 : fn = 0 := by rw [← HFL.out, h2]; rfl
            subst f0
            rw [if_neg (by simp [h1])] at HL2
            rw [if_pos h2] at HF2
            clear h1 h2
            go_wp2
            go_roundw
            case rel => exact ⟨i + 1, o, lo, 0, d, ln, lc, l, B, by omega, by go_num, rfl, rfl, HL, HB, HO2, HF2, HL2, HW⟩
            case measure => simp [intOf]; omega
          · have f0 : ((fn : Int) == 0) = false := by have := HFL.out; have := List.length_pos_iff.2 h2; simp; omega
            rw [if_neg (by simp [h1])] at HL2
            rw [if_neg h2] at HF2
            clear h1 h2
            go_wp2
            go_roundw
            case rel => exact ⟨i + 1, fo, lo, fn, fc, ln, lc, A, B, by omega, by go_num, rfl, rfl, HA, HB, HO2, HF2, HL2, HW⟩
            case measure => simp [intOf]; omega
        · have m0 : (0 : Int) < (m : Int) := by have := HLL.out; have := List.length_pos_iff.2 h1; omega
          by_cases h2 : A = []
          · have f0 : fn = 0 := by rw [← HFL.out, h2]; rfl
            subst f0
            rw [if_pos h1] at HL2
            rw [if_pos h2] at HF2
            clear h1 h2
            go_wp2
            go_roundw
            case rel => exact ⟨i + 1, o, o, m, d, m, d, l, l, by omega, by go_num, rfl, rfl, HL, HL, HO2, HF2, HL2, HW⟩
            case measure => simp [intOf]; omega
          · have f0 : ((fn : Int) == 0) = false := by have := HFL.out; have := List.length_pos_iff.2 h2; simp; omega
            rw [if_pos h1] at HL2
            rw [if_neg h2] at HF2
            clear h1 h2
            go_wp2
            go_roundw
            case rel => exact ⟨i + 1, fo, o, fn, fc, m, d, A, l, by omega, by go_num, rfl, rfl, HA, HL, HO2, HF2, HL2, HW⟩
            case measure => simp [intOf]; omega
    · obtain rfl : cn = i := by omega
      have HT : Hid (cs.take cn = cs) := Lib.hid (List.take_of_length_le (by rw [LC.out]; exact Nat.le_refl _))
      rw [HT.out] at HO HFI HLA
      clear HT
      have HFL := Lib.hid HA.out.len
      have HLL := Lib.hid HB.out.len
      by_cases h2 : A = []
      · have f0 : fn = 0 := by rw [← HFL.out, h2]; rfl
        subst f0
        have HF : Hid (true = r) := Lib.hid (HR.out.2 ⟨HO.out, turn_none HFI.out h2⟩).symm
        have HTK := Lib.hid (fun k => below_drewN HW.out.bw k)
        clear h2
        go_upto_region 12 with fail
        go_quiet (fail)
        go_wp2
        go_returns
        exact ⟨ret_bool (by rw [← HF.out]), HTK.out _⟩
      · have f0 : ((fn : Int) == 0) = false := by have := HFL.out; have := List.length_pos_iff.2 h2; simp; omega
        have hTU := turn_iff (P := P) HFI.out HLA.out h2
        obtain ⟨y, hy, ey⟩ := hullA_mem h2
        have hB := (HLA.out.top A (HFI.out.here h2) y hy).1
        have hn1 : 0 < fn := by have := HFL.out; have := List.length_pos_iff.2 h2; omega
        have hln : ln ≤ 9223372036854775807 := Nat.le_trans HB.out.le HB.out.top
        have hn2 : 0 < ln := by have := HLL.out; have := List.length_pos_iff.2 hB; omega
        have ha := hull_mem HFI.out.good h2
        have hb := hull_mem HLA.out.good hB
        obtain ⟨g1, p1, rfl, hc1⟩ := HA.out.here hn1
        obtain ⟨g2, p2, rfl, hc2⟩ := HB.out.here hn2
        have x1 := (hc1 0 (by have := HFL.out; omega)).1
        have x2 := (hc2 (ln - 1) (by have := HLL.out; omega)).2
        have ea : (A[0]'(by have := HFL.out; omega)).1 = hullA A := by unfold hullA; rw [List.getD_eq_getElem?_getD, List.getElem?_eq_getElem (by have := HFL.out; omega)]; rfl
        have eb : (B[ln - 1]'(by have := HLL.out; omega)).2 = hullB B := by unfold hullB; rw [List.getD_eq_getElem?_getD, List.getElem?_eq_getElem (by have := HLL.out; omega)]; simp only [HLL.out]; rfl
        rw [ea] at x1
        rw [eb] at x2
        obtain ⟨X, hX⟩ : ∃ z, hullA A = z := ⟨_, rfl⟩
        obtain ⟨Y, hY⟩ : ∃ z, hullB B = z := ⟨_, rfl⟩
        rw [hX] at x1 hTU ha
        rw [hY] at x2 hTU hb
        obtain ⟨_, _, _, _, a1, a2, _, _⟩ := ha
        obtain ⟨_, _, _, _, _, _, b1, b2⟩ := hb
        obtain ⟨k, hk⟩ : ∃ k, ln - 1 = k := ⟨_, rfl⟩
        rw [hk] at x2
        simp only [Nat.zero_mul, Nat.add_zero] at x1
        have c0 : wr.cell? ⟨b, 0, none⟩ = some (.int .i64 P) := HW.out.c0
        have HTK := Lib.hid (fun k => below_drewN HW.out.bw k)
        have k0 : (0 : Int) ≤ (k : Int) := by omega
        have k1 : (k : Int) < (ln : Int) := by omega
        have k2 : (0 : Int) < (fn : Int) := by omega
        have HTU := Lib.hid hTU
        have HH := Lib.hid hk
        have HN2 := Lib.hid hn2
        clear hTU ea eb hc1 hc2 hX hY ey hy
        by_cases hlt : Y - P < X
        · have HF : Hid (true = r) := Lib.hid (HR.out.2 ⟨HO.out, HTU.out.2 hlt⟩).symm
          have e1 : IntKind.i64.wrap ((ln : Int) - 1) = (k : Int) := by rw [IntWalk.i64_in _ (by omega)]; omega
          have e2 : IntKind.i64.wrap (Y - P) = Y - P := IntWalk.i64_in _ (by omega)
          clear hk
          go_upto_region 12 with fail
          go_quiet (fail)
          clear e1 e2
          go_wp2
          go_returns
          exact ⟨ret_bool (by rw [← HF.out]; (first | done | rfl | (simp; done) | (simp; omega))), HTK.out _⟩
        · have HF : Hid (false = r) := Lib.hid (by cases r; rfl; exact absurd (HTU.out.1 (HR.out.1 rfl).turn) hlt)
          have e1 : IntKind.i64.wrap ((ln : Int) - 1) = (k : Int) := by rw [IntWalk.i64_in _ (by omega)]; omega
          have e2 : IntKind.i64.wrap (Y - P) = Y - P := IntWalk.i64_in _ (by omega)
          clear hk
          go_upto_region 12 with fail
          go_quiet (fail)
          clear e1 e2
          go_wp2
          go_returns
          exact ⟨ret_bool (by rw [← HF.out]; (first | done | rfl | (simp; done) | (simp; omega))), HTK.out _⟩
end Go.Proofs.YtacpcokmgahjaaaDoor
