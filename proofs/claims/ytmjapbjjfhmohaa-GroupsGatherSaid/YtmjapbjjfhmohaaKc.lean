/- G5, G6, G7, G8, G9, G10 in one. -/
import Derived.Test.YtmjapbjjfhmohaaKb
import Derived.BigQuiet
namespace Go.Proofs.Ytmjapbjjfhmohaa
set_option linter.unusedVariables false
set_option linter.unusedSimpArgs false
open Go.ChangeShapes Go.WideShapes Go.ChangeAt Go.RowKit
/-- Are the sets of a core in order, those of its next turn behind them? -/
structure RisOk (cs : List (List Sp)) (P : Int) : Prop where
  order : cs.Pairwise Ahd
  turn : ∀ a ∈ cs, ∀ b ∈ cs, ∀ s ∈ a, ∀ u ∈ b, s.2 < u.1 + P
/-- The last and the first set with ticks, so far. -/
structure LastIs (cs : List (List Sp)) (L : List Sp) : Prop where
  good : Good L
  top : ∀ a ∈ cs, ∀ s ∈ a, L ≠ [] ∧ s.2 ≤ hullB L
  here : L ≠ [] → L ∈ cs
structure FirstIs (cs : List (List Sp)) (L : List Sp) : Prop where
  good : Good L
  low : ∀ a ∈ cs, ∀ s ∈ a, L ≠ [] ∧ hullA L ≤ s.1
  here : L ≠ [] → L ∈ cs
theorem hullB_mem {L : List Sp} (h : L ≠ []) : ∃ s ∈ L, s.2 = hullB L := by
  have hl : 0 < L.length := List.length_pos_iff.2 h
  refine ⟨L[L.length - 1]'(by omega), List.getElem_mem _, ?_⟩
  unfold hullB; rw [List.getD_eq_getElem?_getD, List.getElem?_eq_getElem (by omega)]; rfl
theorem hullA_mem {L : List Sp} (h : L ≠ []) : ∃ s ∈ L, s.1 = hullA L := by
  have hl : 0 < L.length := List.length_pos_iff.2 h
  refine ⟨L[0]'hl, List.getElem_mem _, ?_⟩
  unfold hullA; rw [List.getD_eq_getElem?_getD, List.getElem?_eq_getElem (by omega)]; rfl
theorem le_hullB {L : List Sp} (g : Good L) {s : Sp} (hs : s ∈ L) : s.2 ≤ hullB L := by
  have h : L ≠ [] := fun e => by rw [e] at hs; cases hs
  obtain ⟨i, hi, rfl⟩ := List.getElem_of_mem hs
  have e1 : hullB L = (L[L.length - 1]'(by omega)).2 := by unfold hullB; rw [List.getD_eq_getElem?_getD, List.getElem?_eq_getElem (by omega)]; rfl
  rw [e1]
  exact good_le g i (L.length - 1) hi (by omega) (by omega)
theorem hullA_le {L : List Sp} (g : Good L) {s : Sp} (hs : s ∈ L) : hullA L ≤ s.1 := by
  have h : L ≠ [] := fun e => by rw [e] at hs; cases hs
  obtain ⟨i, hi, rfl⟩ := List.getElem_of_mem hs
  have e1 : hullA L = (L[0]'(by omega)).1 := by unfold hullA; rw [List.getD_eq_getElem?_getD, List.getElem?_eq_getElem (by omega)]; rfl
  rw [e1]
  by_cases w : i = 0
  · subst w; exact Int.le_refl _
  · have := good_lt g 0 i (by omega) hi (by omega)
    have := good_at g 0 (by omega)
    omega
theorem last_step {cs : List (List Sp)} {L l : List Sp} (h : LastIs cs L) (ho : Ahd L l) (gl : Good l) : LastIs (cs ++ [l]) (if l ≠ [] then l else L) := by
  by_cases e : l = []
  · rw [if_neg (by simp [e])]
    refine ⟨h.good, fun a ha s hs => ?_, fun q => List.mem_append.2 (.inl (h.here q))⟩
    rcases List.mem_append.1 ha with ha | ha
    · exact h.top a ha s hs
    · rw [List.mem_singleton.1 ha, e] at hs; cases hs
  · rw [if_pos e]
    refine ⟨gl, fun a ha s hs => ⟨e, ?_⟩, fun _ => by simp⟩
    rcases List.mem_append.1 ha with ha | ha
    · obtain ⟨q1, q2⟩ := h.top a ha s hs
      obtain ⟨x, hx, ex⟩ := hullB_mem q1
      obtain ⟨y, hy, ey⟩ := hullA_mem e
      have := ho x hx y hy
      have h3 := le_hullB gl hy
      obtain ⟨i, hi, rfl⟩ := List.getElem_of_mem hy
      have := (good_at gl i hi).2.1
      omega
    · rw [List.mem_singleton.1 ha] at hs; exact le_hullB gl hs
theorem first_step {cs : List (List Sp)} {F L l : List Sp} (h : FirstIs cs F) (hL : LastIs cs L) (ho : Ahd L l) (gl : Good l) : FirstIs (cs ++ [l]) (if F = [] then l else F) := by
  by_cases e : F = []
  · rw [if_pos e]
    refine ⟨gl, fun a ha s hs => ?_, fun q => by simp⟩
    rcases List.mem_append.1 ha with ha | ha
    · exact absurd e (h.low a ha s hs).1
    · rw [List.mem_singleton.1 ha] at hs
      exact ⟨fun z => by (rw [z] at hs; cases hs), hullA_le gl hs⟩
  · rw [if_neg e]
    refine ⟨h.good, fun a ha s hs => ⟨e, ?_⟩, fun q => List.mem_append.2 (.inl (h.here q))⟩
    rcases List.mem_append.1 ha with ha | ha
    · exact (h.low a ha s hs).2
    · rw [List.mem_singleton.1 ha] at hs
      obtain ⟨y, hy, ey⟩ := hullA_mem e
      obtain ⟨q1, q2⟩ := hL.top F (h.here e) y hy
      obtain ⟨x, hx, ex⟩ := hullB_mem q1
      have := ho x hx s hs
      obtain ⟨i, hi, rfl⟩ := List.getElem_of_mem hy
      have := (good_at h.good i hi).2.1
      omega
theorem order_step {cs : List (List Sp)} {L l : List Sp} (h : cs.Pairwise Ahd) (hL : LastIs cs L) : (cs ++ [l]).Pairwise Ahd ↔ Ahd L l := by
  rw [List.pairwise_append]
  constructor
  · rintro ⟨_, _, q⟩
    intro s hs
    have e : L ≠ [] := fun z => by rw [z] at hs; cases hs
    exact q L (hL.here e) l (by simp) s hs
  · intro q
    refine ⟨h, by simp, fun a ha b hb => ?_⟩
    rw [List.mem_singleton.1 hb]
    intro s hs u hu
    obtain ⟨q1, q2⟩ := hL.top a ha s hs
    obtain ⟨x, hx, ex⟩ := hullB_mem q1
    have := q x hx u hu
    omega
theorem turn_iff {cs : List (List Sp)} {F L : List Sp} {P : Int} (hF : FirstIs cs F) (hL : LastIs cs L) (e : F ≠ []) : (∀ a ∈ cs, ∀ b ∈ cs, ∀ s ∈ a, ∀ u ∈ b, s.2 < u.1 + P) ↔ hullB L - P < hullA F := by
  obtain ⟨y, hy, ey⟩ := hullA_mem e
  obtain ⟨q1, _⟩ := hL.top F (hF.here e) y hy
  obtain ⟨x, hx, ex⟩ := hullB_mem q1
  constructor
  · intro h
    have := h L (hL.here q1) F (hF.here e) x hx y hy
    omega
  · intro h a ha b hb s hs u hu
    have := (hL.top a ha s hs).2
    have := (hF.low b hb u hu).2
    omega
theorem turn_none {cs : List (List Sp)} {F : List Sp} {P : Int} (hF : FirstIs cs F) (e : F = []) : ∀ a ∈ cs, ∀ b ∈ cs, ∀ s ∈ a, ∀ u ∈ b, s.2 < u.1 + P := fun a ha b hb s hs u hu => absurd e (hF.low a ha s hs).1
theorem last_nil : LastIs [] [] := ⟨trivial, (fun a ha => by cases ha), fun h => absurd rfl h⟩
theorem first_nil : FirstIs [] [] := ⟨trivial, (fun a ha => by cases ha), fun h => absurd rfl h⟩
set_option maxHeartbeats 2000000 in
theorem rising_any (F : Fv) (w : World) (hF : F.At w) (hg : ∀ l ∈ F.cs, Good l) (hp0 : 0 ≤ F.P) (hp1 : F.P ≤ 1099511627776) (r : Bool) (hr : r = true ↔ RisOk F.cs F.P) :
    Calls Try.prog 44 #[F.v] w fun e w' => e = .returned (.bool r) ∧ Below w.heap.size w w' := by
  have HR := Lib.hid hr
  have HG := Lib.hid hg
  clear hr hg
  obtain ⟨P, N, co, cn, cc, oo, on, oc, cs, os⟩ := F
  have LC : Hid (cs.length = cn) := Lib.hid hF.core.len
  have LO : Hid (os.length = on) := Lib.hid hF.odd.len
  have hmc : cn ≤ 9223372036854775807 := Nat.le_trans hF.core.le hF.core.top
  have hmo : on ≤ 9223372036854775807 := Nat.le_trans hF.odd.le hF.odd.top
  obtain ⟨b, hb⟩ : ∃ b, w.heap.size = b := ⟨_, rfl⟩
  obtain ⟨wb, hwb⟩ : ∃ wb, w.alloc (.cells #[.int .i64 P, .int .i64 N, .slice co cn cc, .slice oo on oc] 25) = wb := ⟨_, rfl⟩
  have HBB : Hid (Fbox ⟨P, N, co, cn, cc, oo, on, oc, cs, os⟩ w wb b) := Lib.hid (by rw [← hwb, ← hb]; exact fbox_new hF)
  clear hF
  show Calls Try.prog 44 #[.agg #[.int .i64 P, .int .i64 N, .slice co cn cc, .slice oo on oc]] w _
  go_enter Try.func44, Try.ntmps44
  go_upto_region 1 with fail
  clear hwb hb
  have HR : Hid (r = true ↔ RisOk cs P) := HR
  have HG : Hid (∀ l ∈ cs, Good l) := HG
  have hp0 : 0 ≤ P := hp0
  have hp1 : P ≤ 1099511627776 := hp1
  have e2 : wb.cell? ⟨b, 2, none⟩ = some (.slice co cn cc) := HBB.out.c2
  go_wp2
  clear e2
  go_loopw [3, 4, 10] (fun vf vl ii wr => ∃ (i : Nat) (fo lo : Option Addr) (fn fc ln lc : Nat) (A B : List Sp), i ≤ cn ∧ ii = .int .i64 i ∧ vf = .slice fo fn fc ∧ vl = .slice lo ln lc ∧ Hid (SpAt wr fo fn fc A) ∧ Hid (SpAt wr lo ln lc B) ∧ Hid ((cs.take i).Pairwise Ahd) ∧ Hid (FirstIs (cs.take i) A) ∧ Hid (LastIs (cs.take i) B) ∧ Hid (Fbox ⟨P, N, co, cn, cc, oo, on, oc, cs, os⟩ w wr b)) (fun _ _ ii _ => cn - (intOf ii).toNat)
  case atStart => exact ⟨0, none, none, 0, 0, 0, 0, [], [], Nat.zero_le _, rfl, rfl, rfl, Lib.hid (SpAt.nil _), Lib.hid (SpAt.nil _), Lib.hid List.Pairwise.nil, Lib.hid first_nil, Lib.hid last_nil, HBB⟩
  case round =>
    obtain ⟨i, fo, lo, fn, fc, ln, lc, A, B, hi, rfl, rfl, rfl, HA, HB, HO, HFI, HLA, HW⟩ := hrel
    by_cases ilt : i < cn
    · obtain ⟨g, p, rfl, hc⟩ := (show CoAt wr co cn cc cs from HW.out.at_.core).here (by omega)
      have hil : i < cs.length := by rw [LC.out]; exact ilt
      obtain ⟨o, m, d, d1, d2⟩ := hc i hil
      have HTS := Lib.hid (List.take_succ_eq_append_getElem hil)
      have HGL := Lib.hid (HG.out _ (List.getElem_mem hil))
      obtain ⟨l, hl⟩ : ∃ z, cs[i] = z := ⟨_, rfl⟩
      rw [hl] at d2 HTS HGL
      obtain ⟨q, hq⟩ : ∃ q : Bool, q = true ↔ Ahd B l := by classical exact ⟨decide _, decide_eq_true_iff⟩
      have HQ := Lib.hid hq
      have HL := Lib.hid d2
      have HLL := Lib.hid d2.len
      have HFL := Lib.hid HA.out.len
      have i0 : (0 : Int) ≤ (i : Int) := by omega
      have i1 : (i : Int) < (cn : Int) := by omega
      clear hc hl d2 hq
      clear hil
      go_wp2_with fail
      (with_reducible refine (ahead_any lo o ln lc m d B l _ HB.out HL.out HLA.out.good HGL.out q HQ.out).mono ?_)
      rintro e w2 ⟨rfl, k⟩
      have HA := Lib.hid (HA.out.keep k)
      have HB := Lib.hid (HB.out.keep k)
      have HL := Lib.hid (HL.out.keep k)
      have HW := Lib.hid (HW.out.keep k)
      clear k d1
      cases q
      · have HF : Hid (false = r) := Lib.hid (by
          cases r
          · rfl
          · have h := (HR.out.1 rfl).order
            rw [← List.take_append_drop (i + 1) cs, HTS.out] at h
            have := HQ.out.2 ((order_step HO.out HLA.out).1 (List.pairwise_append.1 h).1)
            cases this)
        clear HQ
        go_wp2
        go_returns
        exact ⟨ret_bool (by rw [← HF.out]), HW.out.bw⟩
      · have HAL := Lib.hid (HQ.out.1 rfl)
        have HO2 : Hid ((cs.take (i + 1)).Pairwise Ahd) := Lib.hid (by rw [HTS.out]; exact (order_step HO.out HLA.out).2 HAL.out)
        have HL2 : Hid (LastIs (cs.take (i + 1)) (if l ≠ [] then l else B)) := Lib.hid (by rw [HTS.out]; exact last_step HLA.out HAL.out HGL.out)
        have HF2 : Hid (FirstIs (cs.take (i + 1)) (if A = [] then l else A)) := Lib.hid (by rw [HTS.out]; exact first_step HFI.out HLA.out HAL.out HGL.out)
        clear HQ HTS HO HFI HLA
        by_cases h1 : l = []
        · have m0 : m = 0 := by rw [← HLL.out, h1]; rfl
          subst m0
          by_cases h2 : A = []
          · have f0 : fn = 0 := by rw [← HFL.out, h2]; rfl
            subst f0
            rw [if_neg (by simp [h1])] at HL2
            rw [if_pos h2] at HF2
            clear h1 h2
            go_wp2
            go_roundw
            case rel => exact ⟨i + 1, o, lo, 0, d, ln, lc, l, B, by omega, by go_num, rfl, rfl, HL, HB, HO2, HF2, HL2, HW⟩
            case measure => simp [intOf]; omega
          · have f0 : ((fn : Int) == 0) = false := by have := HFL.out; have := List.length_pos_iff.2 h2; simp; omega
            rw [if_neg (by simp [h1])] at HL2
            rw [if_neg h2] at HF2
            clear h1 h2
            go_wp2
            go_roundw
            case rel => exact ⟨i + 1, fo, lo, fn, fc, ln, lc, A, B, by omega, by go_num, rfl, rfl, HA, HB, HO2, HF2, HL2, HW⟩
            case measure => simp [intOf]; omega
        · have m0 : (0 : Int) < (m : Int) := by have := HLL.out; have := List.length_pos_iff.2 h1; omega
          by_cases h2 : A = []
          · have f0 : fn = 0 := by rw [← HFL.out, h2]; rfl
            subst f0
            rw [if_pos h1] at HL2
            rw [if_pos h2] at HF2
            clear h1 h2
            go_wp2
            go_roundw
            case rel => exact ⟨i + 1, o, o, m, d, m, d, l, l, by omega, by go_num, rfl, rfl, HL, HL, HO2, HF2, HL2, HW⟩
            case measure => simp [intOf]; omega
          · have f0 : ((fn : Int) == 0) = false := by have := HFL.out; have := List.length_pos_iff.2 h2; simp; omega
            rw [if_pos h1] at HL2
            rw [if_neg h2] at HF2
            clear h1 h2
            go_wp2
            go_roundw
            case rel => exact ⟨i + 1, fo, o, fn, fc, m, d, A, l, by omega, by go_num, rfl, rfl, HA, HL, HO2, HF2, HL2, HW⟩
            case measure => simp [intOf]; omega
    · obtain rfl : cn = i := by omega
      have HT : Hid (cs.take cn = cs) := Lib.hid (List.take_of_length_le (by rw [LC.out]; exact Nat.le_refl _))
      rw [HT.out] at HO HFI HLA
      clear HT
      have HFL := Lib.hid HA.out.len
      have HLL := Lib.hid HB.out.len
      by_cases h2 : A = []
      · have f0 : fn = 0 := by rw [← HFL.out, h2]; rfl
        subst f0
        have HF : Hid (true = r) := Lib.hid (HR.out.2 ⟨HO.out, turn_none HFI.out h2⟩).symm
        have HTK := Lib.hid (fun k => below_drewN HW.out.bw k)
        clear h2
        go_upto_region 12 with fail
        go_quiet (fail)
        go_wp2
        go_returns
        exact ⟨ret_bool (by rw [← HF.out]), HTK.out _⟩
      · have f0 : ((fn : Int) == 0) = false := by have := HFL.out; have := List.length_pos_iff.2 h2; simp; omega
        have hTU := turn_iff (P := P) HFI.out HLA.out h2
        obtain ⟨y, hy, ey⟩ := hullA_mem h2
        have hB := (HLA.out.top A (HFI.out.here h2) y hy).1
        have hn1 : 0 < fn := by have := HFL.out; have := List.length_pos_iff.2 h2; omega
        have hln : ln ≤ 9223372036854775807 := Nat.le_trans HB.out.le HB.out.top
        have hn2 : 0 < ln := by have := HLL.out; have := List.length_pos_iff.2 hB; omega
        have ha := hull_mem HFI.out.good h2
        have hb := hull_mem HLA.out.good hB
        obtain ⟨g1, p1, rfl, hc1⟩ := HA.out.here hn1
        obtain ⟨g2, p2, rfl, hc2⟩ := HB.out.here hn2
        have x1 := (hc1 0 (by have := HFL.out; omega)).1
        have x2 := (hc2 (ln - 1) (by have := HLL.out; omega)).2
        have ea : (A[0]'(by have := HFL.out; omega)).1 = hullA A := by unfold hullA; rw [List.getD_eq_getElem?_getD, List.getElem?_eq_getElem (by have := HFL.out; omega)]; rfl
        have eb : (B[ln - 1]'(by have := HLL.out; omega)).2 = hullB B := by unfold hullB; rw [List.getD_eq_getElem?_getD, List.getElem?_eq_getElem (by have := HLL.out; omega)]; simp only [HLL.out]; rfl
        rw [ea] at x1
        rw [eb] at x2
        obtain ⟨X, hX⟩ : ∃ z, hullA A = z := ⟨_, rfl⟩
        obtain ⟨Y, hY⟩ : ∃ z, hullB B = z := ⟨_, rfl⟩
        rw [hX] at x1 hTU ha
        rw [hY] at x2 hTU hb
        obtain ⟨_, _, _, _, a1, a2, _, _⟩ := ha
        obtain ⟨_, _, _, _, _, _, b1, b2⟩ := hb
        obtain ⟨k, hk⟩ : ∃ k, ln - 1 = k := ⟨_, rfl⟩
        rw [hk] at x2
        simp only [Nat.zero_mul, Nat.add_zero] at x1
        have c0 : wr.cell? ⟨b, 0, none⟩ = some (.int .i64 P) := HW.out.c0
        have HTK := Lib.hid (fun k => below_drewN HW.out.bw k)
        have k0 : (0 : Int) ≤ (k : Int) := by omega
        have k1 : (k : Int) < (ln : Int) := by omega
        have k2 : (0 : Int) < (fn : Int) := by omega
        have HTU := Lib.hid hTU
        have HH := Lib.hid hk
        have HN2 := Lib.hid hn2
        clear hTU ea eb hc1 hc2 hX hY ey hy
        by_cases hlt : Y - P < X
        · have HF : Hid (true = r) := Lib.hid (HR.out.2 ⟨HO.out, HTU.out.2 hlt⟩).symm
          have e1 : IntKind.i64.wrap ((ln : Int) - 1) = (k : Int) := by rw [IntWalk.i64_in _ (by omega)]; omega
          have e2 : IntKind.i64.wrap (Y - P) = Y - P := IntWalk.i64_in _ (by omega)
          clear hk
          go_upto_region 12 with fail
          go_quiet (fail)
          clear e1 e2
          go_wp2
          go_returns
          exact ⟨ret_bool (by rw [← HF.out]; (first | done | rfl | (simp; done) | (simp; omega))), HTK.out _⟩
        · have HF : Hid (false = r) := Lib.hid (by cases r; rfl; exact absurd (HTU.out.1 (HR.out.1 rfl).turn) hlt)
          have e1 : IntKind.i64.wrap ((ln : Int) - 1) = (k : Int) := by rw [IntWalk.i64_in _ (by omega)]; omega
          have e2 : IntKind.i64.wrap (Y - P) = Y - P := IntWalk.i64_in _ (by omega)
          clear hk
          go_upto_region 12 with fail
          go_quiet (fail)
          clear e1 e2
          go_wp2
          go_returns
          exact ⟨ret_bool (by rw [← HF.out]; (first | done | rfl | (simp; done) | (simp; omega))), HTK.out _⟩
theorem isNaN_any (a : Int) (w : World) : Calls Try.prog 89 #[.int .i64 a] w fun e w' => e = .returned (.bool false) ∧ w' = w := by
  have t1 : (a != a) = false := by simp
  go_enter Try.func89, Try.ntmps89
  go_wp2
  go_returns
  exact ⟨rfl, rfl⟩
theorem isNaN2_any (a : Int) (w : World) : Calls Try.prog 93 #[.int .i64 a] w fun e w' => e = .returned (.bool false) ∧ w' = w := by
  have t1 : (a != a) = false := by simp
  go_enter Try.func93, Try.ntmps93
  go_wp2
  go_returns
  exact ⟨rfl, rfl⟩
def cmpI (a b : Int) : Int := if a < b then -1 else if b < a then 1 else 0
theorem cmp_any (a b : Int) (w : World) : Calls Try.prog 80 #[.int .i64 a, .int .i64 b] w fun e w' => e = .returned (.int .i64 (cmpI a b)) ∧ w' = w := by
  by_cases h1 : a < b
  · have HE : Hid (cmpI a b = -1) := Lib.hid (by unfold cmpI; rw [if_pos h1])
    go_enter Try.func80, Try.ntmps80
    go_wp2_with (go_at_call 89; (with_reducible refine (isNaN_any _ _).mono ?_); rintro e w' ⟨rfl, rfl⟩)
    go_returns
    exact ⟨ret_int (by rw [HE.out]), rfl⟩
  · by_cases h2 : b < a
    · have HE : Hid (cmpI a b = 1) := Lib.hid (by unfold cmpI; rw [if_neg h1, if_pos h2])
      go_enter Try.func80, Try.ntmps80
      go_wp2_with (go_at_call 89; (with_reducible refine (isNaN_any _ _).mono ?_); rintro e w' ⟨rfl, rfl⟩)
      go_returns
      exact ⟨ret_int (by rw [HE.out]), rfl⟩
    · have HE : Hid (cmpI a b = 0) := Lib.hid (by unfold cmpI; rw [if_neg h1, if_neg h2])
      go_enter Try.func80, Try.ntmps80
      go_wp2_with (go_at_call 89; (with_reducible refine (isNaN_any _ _).mono ?_); rintro e w' ⟨rfl, rfl⟩)
      go_returns
      exact ⟨ret_int (by rw [HE.out]), rfl⟩
theorem cmpLess_any (a b : Int) (r : Bool) (hr : decide (a < b) = r) (w : World) : Calls Try.prog 92 #[.int .i64 a, .int .i64 b] w fun e w' => e = .returned (.bool r) ∧ w' = w := by
  have HR := Lib.hid hr
  clear hr
  go_enter Try.func92, Try.ntmps92
  go_wp2_with (go_at_call 89; (with_reducible refine (isNaN_any _ _).mono ?_); rintro e w' ⟨rfl, rfl⟩)
  go_returns
  exact ⟨ret_bool HR.out, rfl⟩
theorem odd1_any (x t : Int) (o : Option Addr) (k d : Nat) (w : World) : Calls Try.prog 79 #[.agg #[.int .i64 x, .slice o k d], .int .i64 t] w fun e w' => e = .returned (.int .i64 (cmpI x t)) ∧ Below w.heap.size w w' := by
  obtain ⟨b, hb⟩ : ∃ b, w.heap.size = b := ⟨_, rfl⟩
  obtain ⟨wb, hwb⟩ : ∃ wb, w.alloc (.cells #[.int .i64 x, .slice o k d] 52) = wb := ⟨_, rfl⟩
  have f1 : wb.cell? ⟨b, 0, none⟩ = some (.int .i64 x) := by rw [← hwb, ← hb]; exact (box_cells w (.int .i64 x) (.slice o k d) 52).1
  have HB : Hid (Below w.heap.size w wb) := Lib.hid (by rw [← hwb]; exact (Below.refl _ w).alloc (Nat.le_refl _) _)
  go_enter Try.func79, Try.ntmps79
  go_upto_region 1 with fail
  clear hwb hb
  go_wp2_with (go_at_call 80; (with_reducible refine (cmp_any _ _ _).mono ?_); rintro e w' ⟨rfl, rfl⟩)
  go_returns
  exact ⟨rfl, HB.out⟩
/-- Where the exception of an index is, or would be. -/
structure OIs (os : List Gr) (t : Int) (i : Nat) : Prop where
  low : ∀ j (h : j < os.length), j < i → os[j].1 < t
  high : ∀ j (h : j < os.length), i ≤ j → t ≤ os[j].1
theorem inc_at {os : List Gr} (h : os.Pairwise (fun a b => a.1 < b.1)) (i j : Nat) (hi : i < os.length) (hj : j < os.length) (q : i < j) : os[i].1 < os[j].1 := List.pairwise_iff_getElem.1 h i j hi hj q
theorem inc_le {os : List Gr} (h : os.Pairwise (fun a b => a.1 < b.1)) (i j : Nat) (hi : i < os.length) (hj : j < os.length) (q : i ≤ j) : os[i].1 ≤ os[j].1 := by
  by_cases e : i = j
  · subst e; exact Int.le_refl _
  · have := inc_at h i j hi hj (by omega); omega
theorem cmpI_neg {a b : Int} (h : a < b) : cmpI a b = -1 := by unfold cmpI; rw [if_pos h]
theorem cmpI_pos {a b : Int} (h : ¬ a < b) : cmpI a b = 0 ∨ cmpI a b = 1 := by
  unfold cmpI; rw [if_neg h]; by_cases q : b < a
  · rw [if_pos q]; exact .inr rfl
  · rw [if_neg q]; exact .inl rfl
theorem cmpI_eq (a b : Int) : (cmpI a b == 0) = decide (a = b) := by
  unfold cmpI
  by_cases h : a < b
  · rw [if_pos h]; have : a ≠ b := by omega
    simp [this]
  · rw [if_neg h]; by_cases q : b < a
    · rw [if_pos q]; have : a ≠ b := by omega
      simp [this]
    · rw [if_neg q]; have : a = b := by omega
      simp [this]
set_option maxHeartbeats 1000000 in
theorem bsf_any (oo : Option Addr) (on oc : Nat) (os : List Gr) (t : Int) (w : World) (ho : OdAt w oo on oc os) (hs : os.Pairwise (fun a b => a.1 < b.1)) (hn : on ≤ 1099511627776) :
    Calls Try.prog 78 #[.slice oo on oc, .int .i64 t, .func (.func 79) #[] #[]] w fun e w' => ∃ (i : Nat) (f : Bool), i ≤ on ∧ e = .returned (.tuple #[.int .i64 i, .bool f]) ∧ Hid (OIs os t i) ∧ Hid (f = true ↔ ∃ h : i < os.length, os[i].1 = t) ∧ Hid (Below w.heap.size w w') := by
  have HO := Lib.hid ho
  have LO := Lib.hid ho.len
  have HS := Lib.hid hs
  clear ho hs
  go_enter Try.func78, Try.ntmps78
  go_wp2
  go_loopw [9, 10] (fun i j wr => ∃ a b : Nat, i = .int .i64 a ∧ j = .int .i64 b ∧ a ≤ b ∧ b ≤ on ∧ Hid ((∀ j (h : j < os.length), j < a → os[j].1 < t) ∧ ∀ j (h : j < os.length), b ≤ j → t ≤ os[j].1) ∧ Hid (Below w.heap.size w wr)) (fun i j _ => (intOf j - intOf i).toNat)
  case atStart => exact ⟨0, on, rfl, rfl, Nat.zero_le _, Nat.le_refl _, Lib.hid ⟨fun j _ h => absurd h (Nat.not_lt_zero _), fun j h q => by have := LO.out; omega⟩, Lib.hid (Below.refl _ _)⟩
  case round =>
    obtain ⟨a, b, rfl, rfl, hab, hbn, HI, HB⟩ := hrel
    by_cases hlt : a < b
    · obtain ⟨m, hm⟩ : ∃ m : Nat, (a + b) / 2 = m := ⟨_, rfl⟩
      have hm1 : a ≤ m := by omega
      have hm2 : m < b := by omega
      have hmi : ((a : Int) + (b : Int)) / 2 = (m : Int) := by omega
      have HOW := HO.out.keep HB.out
      obtain ⟨g, p, rfl, hc⟩ := HOW.here (by omega)
      have hml : m < os.length := by rw [LO.out]; omega
      obtain ⟨d1, ⟨o, k, d, d2, d3⟩, d4, d5⟩ := hc m hml
      have HL : Hid (∀ j (h : j < os.length), j ≤ m → os[j].1 ≤ os[m].1) := Lib.hid (fun j h q => inc_le HS.out j m h hml q)
      have HH : Hid (∀ j (h : j < os.length), m ≤ j → os[m].1 ≤ os[j].1) := Lib.hid (fun j h q => inc_le HS.out m j hml h q)
      have HM := Lib.hid hml
      clear hm hc d3 HOW
      obtain ⟨z, hz⟩ : ∃ q, (os[m]'hml).1 = q := ⟨_, rfl⟩
      rw [hz] at d1 d4 d5 HL HH
      clear hz
      clear hml
      have m0 : (0 : Int) ≤ (m : Int) := by omega
      have m1 : (m : Int) < (on : Int) := by omega
      have HCL := Lib.hid (odd1_any z t o k d)
      by_cases hq : z < t
      · have HI2 : Hid ((∀ j (h : j < os.length), j < m + 1 → os[j].1 < t) ∧ ∀ j (h : j < os.length), b ≤ j → t ≤ os[j].1) := Lib.hid ⟨fun j h q => by have := HL.out j h (by omega); omega, HI.out.2⟩
        rw [cmpI_neg hq] at HCL
        clear HI HL HH HM
        go_wp2_with fail
        (with_reducible refine (HCL.out _).mono ?_)
        rintro e w1 ⟨rfl, b1⟩
        have HB1 := Lib.hid (HB.out.trans (b1.mono HB.out.size))
        clear b1
        go_wp2
        go_roundw
        case rel => exact ⟨m + 1, b, by go_num, rfl, by omega, hbn, HI2, HB1⟩
        case measure => simp [intOf]; omega
      · have HI2 : Hid ((∀ j (h : j < os.length), j < a → os[j].1 < t) ∧ ∀ j (h : j < os.length), m ≤ j → t ≤ os[j].1) := Lib.hid ⟨HI.out.1, fun j h q => by have := HH.out j h q; omega⟩
        obtain ⟨y, hy, hy0⟩ : ∃ y, cmpI z t = y ∧ ¬ y < 0 := ⟨_, rfl, by rcases cmpI_pos hq with h | h <;> omega⟩
        rw [hy] at HCL
        clear HI HL HH HM hy
        go_wp2_with fail
        (with_reducible refine (HCL.out _).mono ?_)
        rintro e w1 ⟨rfl, b1⟩
        have HB1 := Lib.hid (HB.out.trans (b1.mono HB.out.size))
        clear b1
        go_wp2
        go_roundw
        case rel => exact ⟨a, m, rfl, rfl, hm1, by omega, HI2, HB1⟩
        case measure => simp [intOf]; omega
    · obtain rfl : a = b := by omega
      by_cases hn2 : a < on
      · have HOW := HO.out.keep HB.out
        obtain ⟨g, p, rfl, hc⟩ := HOW.here (by omega)
        have hml : a < os.length := by rw [LO.out]; omega
        obtain ⟨d1, ⟨o, k, d, d2, d3⟩, d4, d5⟩ := hc a hml
        have HM := Lib.hid hml
        have HZ : Hid ((os[a]'hml).1 = t ↔ ∃ h : a < os.length, os[a].1 = t) := Lib.hid ⟨fun h => ⟨HM.out, h⟩, fun ⟨_, h⟩ => h⟩
        clear hc d3 HOW
        obtain ⟨z, hz⟩ : ∃ q, (os[a]'hml).1 = q := ⟨_, rfl⟩
        rw [hz] at d1 d4 d5
        have HZ2 : Hid (z = t ↔ ∃ h : a < os.length, os[a].1 = t) := Lib.hid (by rw [← HZ.out, hz])
        clear hz HZ
        clear hml
        have HCL := Lib.hid (odd1_any z t o k d)
        have HE := Lib.hid (cmpI_eq z t)
        obtain ⟨y, hy⟩ : ∃ y, cmpI z t = y := ⟨_, rfl⟩
        rw [hy] at HCL HE
        clear hy
        have m0 : (0 : Int) ≤ (a : Int) := by omega
        have m1 : (a : Int) < (on : Int) := by omega
        go_wp2_with fail
        (with_reducible refine (HCL.out _).mono ?_)
        rintro e w1 ⟨rfl, b1⟩
        have HB1 := Lib.hid (HB.out.trans (b1.mono HB.out.size))
        clear b1
        go_wp2
        go_returns
        exact ⟨a, decide (z = t), hbn, by rw [← HE.out]; (first | done | rfl | (simp; done)), Lib.hid ⟨HI.out.1, HI.out.2⟩, Lib.hid (by rw [decide_eq_true_iff]; exact HZ2.out), HB1⟩
      · have hf : a = on := by omega
        go_wp2
        go_returns
        exact ⟨a, false, hbn, rfl, Lib.hid ⟨HI.out.1, HI.out.2⟩, Lib.hid ⟨fun h => (by cases h), fun ⟨h, _⟩ => by have := LO.out; omega⟩, HB⟩
theorem odd_any (F : Fv) (t : Int) (w : World) (hF : F.At w) (hs : F.os.Pairwise (fun a b => a.1 < b.1)) (hn : F.on ≤ 1099511627776) :
    Calls Try.prog 55 #[F.v, .int .i64 t] w fun e w' => ∃ (i : Nat) (f : Bool), i ≤ F.on ∧ e = .returned (.tuple #[.int .i64 i, .bool f]) ∧ Hid (OIs F.os t i) ∧ Hid (f = true ↔ ∃ h : i < F.os.length, F.os[i].1 = t) ∧ Hid (Below w.heap.size w w') := by
  obtain ⟨P, N, co, cn, cc, oo, on, oc, cs, os⟩ := F
  have LC : Hid (cs.length = cn) := Lib.hid hF.core.len
  have LO : Hid (os.length = on) := Lib.hid hF.odd.len
  have hmc : cn ≤ 9223372036854775807 := Nat.le_trans hF.core.le hF.core.top
  have hmo : on ≤ 9223372036854775807 := Nat.le_trans hF.odd.le hF.odd.top
  have HS : Hid (os.Pairwise (fun a b => a.1 < b.1)) := Lib.hid hs
  have hn : on ≤ 1099511627776 := hn
  obtain ⟨b, hb⟩ : ∃ b, w.heap.size = b := ⟨_, rfl⟩
  obtain ⟨wb, hwb⟩ : ∃ wb, w.alloc (.cells #[.int .i64 P, .int .i64 N, .slice co cn cc, .slice oo on oc] 25) = wb := ⟨_, rfl⟩
  have HBB : Hid (Fbox ⟨P, N, co, cn, cc, oo, on, oc, cs, os⟩ w wb b) := Lib.hid (by rw [← hwb, ← hb]; exact fbox_new hF)
  clear hF
  show Calls Try.prog 55 #[.agg #[.int .i64 P, .int .i64 N, .slice co cn cc, .slice oo on oc], .int .i64 t] w _
  go_enter Try.func55, Try.ntmps55
  go_upto_region 1 with fail
  clear hwb hb
  have e3 : wb.cell? ⟨b, 3, none⟩ = some (.slice oo on oc) := HBB.out.c3
  have HC := Lib.hid (bsf_any oo on oc os t wb HBB.out.at_.odd HS.out hn)
  clear HS
  go_wp2_with fail
  (with_reducible refine HC.out.mono ?_)
  rintro e w1 ⟨i, f, h1, rfl, h2, h3, h4⟩
  go_wp2
  go_returns
  exact ⟨i, f, h1, rfl, h2, h3, Lib.hid (HBB.out.bw.trans (h4.out.mono HBB.out.bw.size))⟩
/-- All ticks in range. -/
def Fit (l : List Sp) : Prop := ∀ s ∈ l, (-1099511627776 ≤ s.1 ∧ s.1 ≤ 1099511627776) ∧ -1099511627776 ≤ s.2 ∧ s.2 ≤ 1099511627776
theorem fit_moved (l : List Sp) (d : Int) : Fit (moved l d) ↔ ∀ s ∈ l, okSp d s := by
  unfold Fit moved okSp
  constructor
  · intro h s hs
    exact h (s.1 + d, s.2 + d) (List.mem_map.2 ⟨s, hs, rfl⟩)
  · intro h s hs
    obtain ⟨u, hu, rfl⟩ := List.mem_map.1 hs
    exact h u hu
theorem fit_good {l : List Sp} (g : Good l) : Fit l := by
  intro s hs
  obtain ⟨i, hi, rfl⟩ := List.getElem_of_mem hs
  have := good_at g i hi
  omega
/-- The exception of an index. -/
def exc (os : List Gr) (i : Int) : Option (List Sp) := (os.find? (fun o => o.1 == i)).map (fun o => o.2)
/-- The set of an index of the core, however far. -/
def cset (cs : List (List Sp)) (N i : Int) : List Sp := cs.getD (i.fmod N).toNat []
def cg (cs : List (List Sp)) (P N i : Int) : List Sp := if 0 < N ∧ N = cs.length then moved (cset cs N i) (P * i.fdiv N) else []
/-- The set of an index, however far. -/
def gr (F : Fv) (i : Int) : List Sp := match exc F.os i with
  | some l => l
  | none => cg F.cs F.P F.N i
structure Fv.Ok (F : Fv) : Prop where
  meas : F.Meas
  core : ∀ l ∈ F.cs, Good l
  odd : OddOk F.os
  lenC : ∀ l ∈ F.cs, l.length ≤ 1000000
  lenO : ∀ o ∈ F.os, o.2.length ≤ 1000000
  cn : F.cn ≤ 1000000
  on : F.on ≤ 1000000
theorem exc_at {os : List Gr} {i : Int} (h : os.Pairwise (fun a b => a.1 < b.1)) {n : Nat} (hn : n < os.length) (e : os[n].1 = i) : exc os i = some os[n].2 := by
  unfold exc
  induction os generalizing n with
  | nil => simp at hn
  | cons o r ih =>
    rw [List.pairwise_cons] at h
    cases n with
    | zero =>
      have e' : o.1 = i := e
      rw [List.find?_cons_of_pos (by simpa using e')]; rfl
    | succ m =>
      have e' : (r[m]'(by simpa using hn)).1 = i := by simpa using e
      have := h.1 _ (List.getElem_mem (by simpa using hn : m < r.length))
      rw [List.find?_cons_of_neg (by simp; omega)]
      simpa using ih h.2 (by simpa using hn) e'
theorem exc_none {os : List Gr} {i : Int} : exc os i = none ↔ ∀ o ∈ os, o.1 ≠ i := by
  unfold exc
  rw [Option.map_eq_none_iff, List.find?_eq_none]
  constructor
  · intro h o ho e; exact h o ho (by simpa using e)
  · intro h o ho e; exact h o ho (by simpa using e)
theorem exc_some {os : List Gr} {i : Int} {l : List Sp} (h : exc os i = some l) : ∃ n, ∃ hn : n < os.length, os[n].1 = i ∧ os[n].2 = l := by
  unfold exc at h
  obtain ⟨o, ho, rfl⟩ := Option.map_eq_some_iff.1 h
  obtain ⟨n, hn, rfl⟩ := List.getElem_of_mem (List.mem_of_find?_eq_some ho)
  exact ⟨n, hn, by simpa using List.find?_some ho, rfl⟩
theorem ois_none {os : List Gr} {i : Int} {n : Nat} (h : os.Pairwise (fun a b => a.1 < b.1)) (hi : OIs os i n) (hf : ¬ ∃ h : n < os.length, os[n].1 = i) : exc os i = none := by
  rw [exc_none]
  intro o ho e
  obtain ⟨j, hj, rfl⟩ := List.getElem_of_mem ho
  by_cases q : j < n
  · have := hi.low j hj q; omega
  · by_cases z : j = n
    · subst z; exact hf ⟨hj, e⟩
    · have := inc_at h n j (by omega) hj (by omega)
      have := hi.high n (by omega) (Nat.le_refl _)
      omega
theorem fmod_nat (i : Int) {N : Int} (h : 0 < N) : 0 ≤ i.fmod N ∧ i.fmod N < N := ⟨Int.fmod_nonneg_of_pos i h, Int.fmod_lt_of_pos i h⟩
theorem far_out {l : List Sp} {d : Int} (g : Good l) (h : l ≠ []) (hd : d < -9223372036854775808 ∨ 9223372036854775807 < d) : ¬ Fit (moved l d) := by
  rw [fit_moved]
  intro q
  obtain ⟨s, hs⟩ := List.exists_mem_of_ne_nil l h
  obtain ⟨i, hi, rfl⟩ := List.getElem_of_mem hs
  have := (q _ hs).1
  have := good_at g i hi
  omega
theorem fdiv_in (i : Int) {N : Int} (h : 0 < N) (h1 : -9223372036854775808 ≤ i) (h2 : i ≤ 9223372036854775807) : -9223372036854775808 ≤ i.fdiv N ∧ i.fdiv N ≤ 9223372036854775807 := by
  rw [Int.fdiv_eq_ediv_of_nonneg _ (by omega)]
  constructor
  · by_cases z : 0 ≤ i
    · have := Int.ediv_nonneg z (by omega : 0 ≤ N); omega
    · have r := Int.lt_ediv_add_one_mul_self i h
      have hq : i / N < 0 := Int.ediv_neg_of_neg_of_pos (by omega) h
      have r2 : (i / N + 1) * N ≤ (i / N + 1) * 1 := Int.mul_le_mul_of_nonpos_left (by omega) (by omega)
      have r3 := Int.lt_of_lt_of_le r r2
      clear r r2
      omega
  · exact Int.le_trans (by
      by_cases z : 0 ≤ i
      · exact Int.le_trans (Int.ediv_le_self N z) (by omega)
      · have hq : i / N < 0 := Int.ediv_neg_of_neg_of_pos (by omega) h
        omega : i / N ≤ max i 0) (by omega)
theorem own_base {w : World} {B C e s n : Nat} {v : Value} {xs : List Value} (h : w.ownsRow B e s v n xs) (hb : C ≤ B) : w.ownsRow C e s v n xs := by
  obtain ⟨h1, h2⟩ := h
  refine ⟨h1, ?_⟩
  rcases h2 with h2 | ⟨g, cap, cur, e1, e2, e3⟩
  · exact .inl h2
  · exact .inr ⟨g, cap, cur, e1, Nat.le_trans hb e2, e3⟩
set_option maxHeartbeats 2000000 in
theorem ticks_any (F : Fv) (i : Int) (w : World) (hF : F.At w) (ok : F.Ok) (hi1 : -9223372036854775808 ≤ i) (hi2 : i ≤ 9223372036854775807) :
    Calls Try.prog 33 #[F.v, .int .i64 i] w fun e w' => ∃ (v : Value) (k : Int), e = .returned (.tuple #[v, .int .i64 k]) ∧ Below w.heap.size w w' ∧ Hid ((Fit (gr F i) ∧ k = 0 ∧ w'.ownsRow w.heap.size 50 2 v (gr F i).length (spCells (gr F i))) ∨ (¬ Fit (gr F i) ∧ k = 20 ∧ v = .slice none 0 0)) := by
  have HO := Lib.hid (fun W h => odd_any F i W h ok.odd.inc (Nat.le_trans ok.on (by omega)))
  obtain ⟨rp, hrp⟩ : ∃ r : Bool, r = true ↔ F.Rep := by classical exact ⟨decide _, decide_eq_true_iff⟩
  have HRP := Lib.hid (fun W h => repeats_any F W h rp hrp)
  have HR := Lib.hid hrp
  have HK := Lib.hid ok
  clear hrp
  have on1 := ok.on
  have cn1 := ok.cn
  clear ok
  obtain ⟨G, hG⟩ : ∃ g, gr F i = g := ⟨_, rfl⟩
  rw [hG]
  have HG := Lib.hid hG
  clear hG
  obtain ⟨P, N, co, cn, cc, oo, on, oc, cs, os⟩ := F
  have LC : Hid (cs.length = cn) := Lib.hid hF.core.len
  have LO : Hid (os.length = on) := Lib.hid hF.odd.len
  have hmc : cn ≤ 9223372036854775807 := Nat.le_trans hF.core.le hF.core.top
  have hmo : on ≤ 9223372036854775807 := Nat.le_trans hF.odd.le hF.odd.top
  have on1 : on ≤ 1000000 := on1
  have cn1 : cn ≤ 1000000 := cn1
  have n1 : -9223372036854775808 ≤ N := hF.n1
  have n2 : N ≤ 9223372036854775807 := hF.n2
  have p1 : -9223372036854775808 ≤ P := hF.p1
  have p2 : P ≤ 9223372036854775807 := hF.p2
  have HR : Hid (rp = true ↔ 0 < N ∧ N = cn) := HR
  obtain ⟨b, hb⟩ : ∃ b, w.heap.size = b := ⟨_, rfl⟩
  obtain ⟨wb, hwb⟩ : ∃ wb, w.alloc (.cells #[.int .i64 P, .int .i64 N, .slice co cn cc, .slice oo on oc] 25) = wb := ⟨_, rfl⟩
  have HBB : Hid (Fbox ⟨P, N, co, cn, cc, oo, on, oc, cs, os⟩ w wb b) := Lib.hid (by rw [← hwb, ← hb]; exact fbox_new hF)
  clear hF
  show Calls Try.prog 33 #[.agg #[.int .i64 P, .int .i64 N, .slice co cn cc, .slice oo on oc], .int .i64 i] w _
  go_enter Try.func33, Try.ntmps33
  go_upto_region 1 with fail
  clear hwb hb
  have e0 : wb.cell? ⟨b, 0, none⟩ = some (.int .i64 P) := HBB.out.c0
  have e1 : wb.cell? ⟨b, 1, none⟩ = some (.int .i64 N) := HBB.out.c1
  have e2 : wb.cell? ⟨b, 2, none⟩ = some (.slice co cn cc) := HBB.out.c2
  have e3 : wb.cell? ⟨b, 3, none⟩ = some (.slice oo on oc) := HBB.out.c3
  have HO : Hid (∀ W, Fv.At ⟨P, N, co, cn, cc, oo, on, oc, cs, os⟩ W → Calls Try.prog 55 #[.agg #[.int .i64 P, .int .i64 N, .slice co cn cc, .slice oo on oc], .int .i64 i] W fun e w' => ∃ (n : Nat) (f : Bool), n ≤ on ∧ e = .returned (.tuple #[.int .i64 n, .bool f]) ∧ Hid (OIs os i n) ∧ Hid (f = true ↔ ∃ h : n < os.length, os[n].1 = i) ∧ Hid (Below W.heap.size W w')) := HO
  have HRP : Hid (∀ W, Fv.At ⟨P, N, co, cn, cc, oo, on, oc, cs, os⟩ W → Calls Try.prog 56 #[.agg #[.int .i64 P, .int .i64 N, .slice co cn cc, .slice oo on oc]] W fun e w' => e = .returned (.bool rp) ∧ Below W.heap.size W w') := HRP
  go_wp2_with fail
  (with_reducible refine (HO.out _ HBB.out.at_).mono ?_)
  rintro e w2 ⟨n, f, hn, rfl, HI, HFd, q⟩
  have HBB := Lib.hid (HBB.out.keep q.out)
  clear q e0 e1 e2 e3
  have e0 : w2.cell? ⟨b, 0, none⟩ = some (.int .i64 P) := HBB.out.c0
  have e1 : w2.cell? ⟨b, 1, none⟩ = some (.int .i64 N) := HBB.out.c1
  have e2 : w2.cell? ⟨b, 2, none⟩ = some (.slice co cn cc) := HBB.out.c2
  have e3 : w2.cell? ⟨b, 3, none⟩ = some (.slice oo on oc) := HBB.out.c3
  cases f
  · have HX : Hid (exc os i = none) := Lib.hid (ois_none HK.out.odd.inc HI.out (fun h => by have := HFd.out.2 h; cases this))
    have HGc : Hid (G = cg cs P N i) := Lib.hid (by rw [← HG.out]; unfold gr; rw [HX.out])
    go_wp2_with fail
    (with_reducible refine (HRP.out _ HBB.out.at_).mono ?_)
    rintro e w3 ⟨rfl, q⟩
    have HBB := Lib.hid (HBB.out.keep q)
    clear q e0 e1 e2 e3
    cases rp
    · have HE : Hid (G = []) := Lib.hid (by
        rw [HGc.out]; unfold cg
        rw [if_neg (by rw [LC.out]; exact fun h => by have := HR.out.2 h; cases this)])
      go_wp2
      go_returns
      exact ⟨_, _, rfl, HBB.out.bw, Lib.hid (.inl ⟨(by rw [HE.out]; intro s hs; cases hs), rfl, by rw [HE.out]; exact World.ownsRow_nil _ _ _ _⟩)⟩
    · obtain ⟨r1, rfl⟩ := HR.out.1 rfl
      have e0 : w3.cell? ⟨b, 0, none⟩ = some (.int .i64 P) := HBB.out.c0
      have e1 : w3.cell? ⟨b, 1, none⟩ = some (.int .i64 (cn : Int)) := HBB.out.c1
      have e2 : w3.cell? ⟨b, 2, none⟩ = some (.slice co cn cc) := HBB.out.c2
      have r3 : (cn : Int) ≠ 0 := by omega
      have r4 : ¬ (i = -9223372036854775808 ∧ (cn : Int) = -1) := by omega
      have HM := Lib.hid (fmod_nat i r1)
      have HD := Lib.hid (fdiv_in i r1 hi1 hi2)
      have HFL := Lib.hid (fun W => floor_ok i cn W hi1 hi2 n1 n2 r3 r4)
      obtain ⟨at_, hat⟩ : ∃ q, i.fmod (cn : Int) = q := ⟨_, rfl⟩
      obtain ⟨tn, htn⟩ : ∃ q, i.fdiv (cn : Int) = q := ⟨_, rfl⟩
      rw [hat] at HM HFL
      rw [htn] at HD HFL
      obtain ⟨a0, a1⟩ := HM.out
      obtain ⟨d0, d1⟩ := HD.out
      have HGd : Hid (G = moved (cs.getD at_.toNat []) (P * tn)) := Lib.hid (by
        rw [HGc.out]; unfold cg cset
        rw [if_pos ⟨r1, by rw [LC.out]⟩, hat, htn])
      clear hat htn HGc
      obtain ⟨k, rfl⟩ : ∃ k : Nat, at_ = (k : Int) := ⟨at_.toNat, by omega⟩
      have klt : k < cn := by omega
      obtain ⟨g, p, rfl, hc⟩ := (show CoAt w3 co cn cc cs from HBB.out.at_.core).here (by omega)
      have hkl : k < cs.length := by rw [LC.out]; exact klt
      obtain ⟨o, m, d, c1, c2⟩ := hc k hkl
      have HL : Hid (cs.getD ((k : Int)).toNat [] = cs[k]'hkl) := Lib.hid (by rw [Int.toNat_natCast, List.getD_eq_getElem?_getD, List.getElem?_eq_getElem hkl]; rfl)
      have m1 : m ≤ 1000000 := by rw [← c2.len]; exact HK.out.lenC _ (List.getElem_mem hkl)
      have HGO : Hid (Good (cs[k]'hkl)) := Lib.hid (HK.out.core _ (List.getElem_mem hkl))
      have HSP := Lib.hid c2
      obtain ⟨L, hL⟩ : ∃ q, (cs[k]'hkl) = q := ⟨_, rfl⟩
      rw [hL] at HL HGO HSP
      clear hL hc c2
      clear hkl
      rw [HL.out] at HGd
      clear HL
      have k0 : (0 : Int) ≤ (k : Int) := by omega
      have k1 : (k : Int) < (cn : Int) := by omega
      have HLM := Lib.hid HSP.out.len
      go_wp2_with fail
      (with_reducible refine (HFL.out _).mono ?_)
      rintro e w4 ⟨rfl, nd, hw4⟩
      have HB4 : Hid (Below w3.heap.size w3 w4) := Lib.hid (by rw [hw4]; exact below_drewN (Below.refl _ _) _)
      clear hw4
      have HBB := Lib.hid (HBB.out.keep HB4.out)
      have HSP := Lib.hid (HSP.out.keep HB4.out)
      have c1 := cell_keep c1 HB4.out
      clear e0 e1 e2 HFL HB4
      have e0 : w4.cell? ⟨b, 0, none⟩ = some (.int .i64 P) := HBB.out.c0
      have e2 : w4.cell? ⟨b, 2, none⟩ = some (.slice (some ⟨g, p, none⟩) cn cc) := HBB.out.c2
      by_cases hm : m = 0
      · have HE : Hid (G = []) := Lib.hid (by
          have : L = [] := List.eq_nil_of_length_eq_zero (by rw [HLM.out]; exact hm)
          rw [HGd.out, this]; rfl)
        have t1 : ((m : Int) == 0) = true := by simp; omega
        go_wp2
        go_returns
        exact ⟨_, _, rfl, HBB.out.bw, Lib.hid (.inl ⟨(by rw [HE.out]; intro s hs; cases hs), rfl, by rw [HE.out]; exact World.ownsRow_nil _ _ _ _⟩)⟩
      · have t1 : ((m : Int) == 0) = false := by simp; omega
        have HNE : Hid (L ≠ []) := Lib.hid (fun h => by have := HLM.out; rw [h] at this; simp at this; omega)
        by_cases hv : -9223372036854775808 ≤ P * tn ∧ P * tn ≤ 9223372036854775807
        · have HML := Lib.hid (fun W => mul_ok P tn W p1 p2 d0 d1 hv.1 hv.2)
          have HMV := Lib.hid (fun W h => move_any o m d L HGO.out m1 (P * tn) hv.1 hv.2 W h)
          obtain ⟨by_, hby⟩ : ∃ q, P * tn = q := ⟨_, rfl⟩
          rw [hby] at HML HMV HGd
          clear hv hby
          go_wp2_with fail
          (with_reducible refine (HML.out _).mono ?_)
          rintro e w5 ⟨rfl, rfl⟩
          go_wp2_with fail
          (with_reducible refine (HMV.out _ HSP.out).mono ?_)
          rintro e w6 ⟨v, k6, rfl, b6, HV⟩
          have HV := Lib.hid HV
          have HBW := Lib.hid (HBB.out.bw.trans (b6.mono HBB.out.bw.size))
          have HSZ := Lib.hid HBB.out.bw.size
          clear b6
          go_wp2
          go_returns
          refine ⟨v, k6, rfl, HBW.out, Lib.hid ?_⟩
          rw [HGd.out]
          rcases HV.out with ⟨z1, z2, z3⟩ | ⟨z1, z2, z3⟩
          · exact .inl ⟨(fit_moved _ _).2 z1, z2, by rw [moved_length, HLM.out]; exact own_base z3 HSZ.out⟩
          · exact .inr ⟨fun h => by obtain ⟨s, hs, hn⟩ := z1; exact hn ((fit_moved _ _).1 h s hs), z2, z3⟩
        · have HML := Lib.hid (fun W => mul_over P tn W p1 p2 d0 d1 (by omega))
          have HNF : Hid (¬ Fit G) := Lib.hid (by rw [HGd.out]; exact far_out HGO.out HNE.out (by omega))
          clear hv
          go_wp2_with fail
          (with_reducible refine (HML.out _).mono ?_)
          rintro e w5 ⟨rfl, rfl⟩
          go_wp2
          go_returns
          exact ⟨_, _, rfl, HBB.out.bw, Lib.hid (.inr ⟨HNF.out, rfl, rfl⟩)⟩
  · have HX : Hid (∃ h : n < os.length, os[n].1 = i) := Lib.hid (HFd.out.1 rfl)
    have hnl : n < os.length := HX.out.1
    have nlt : n < on := by rw [← LO.out]; exact hnl
    have HGe : Hid (G = (os[n]'hnl).2) := Lib.hid (by
      obtain ⟨_, h⟩ := HX.out
      rw [← HG.out]; unfold gr; rw [exc_at HK.out.odd.inc hnl h])
    obtain ⟨g, p, rfl, hc⟩ := (show OdAt w2 oo on oc os from HBB.out.at_.odd).here (by omega)
    obtain ⟨d1, ⟨o, m, d, d2, d3⟩, d4, d5⟩ := hc n hnl
    have HCL := Lib.hid (clone_any o m d (os[n]'hnl).2 (by rw [← d3.len]; exact HK.out.lenO _ (List.getElem_mem hnl)) w2 d3)
    have HFT : Hid (Fit (os[n]'hnl).2) := Lib.hid (fit_good (HK.out.odd.good _ (List.getElem_mem hnl)).1)
    have HLM := Lib.hid d3.len
    rw [← HGe.out] at HCL HFT HLM
    clear d3 d1 d4 d5 hc HGe HX
    clear hnl
    have k0 : (0 : Int) ≤ (n : Int) := by omega
    have k1 : (n : Int) < (on : Int) := by omega
    go_wp2_with fail
    (with_reducible refine HCL.out.mono ?_)
    rintro e w3 ⟨v, rfl, z, b3⟩
    have HZ := Lib.hid z
    have HSZ := Lib.hid HBB.out.bw.size
    have HBW := Lib.hid (HBB.out.bw.trans (b3.mono HBB.out.bw.size))
    clear z b3
    go_wp2
    go_returns
    exact ⟨v, 0, rfl, HBW.out, Lib.hid (.inl ⟨HFT.out, rfl, by rw [HLM.out]; exact own_base HZ.out HSZ.out⟩)⟩
def InR (i : Int) : Prop := -1099511627776 ≤ i ∧ i ≤ 1099511627776
def Told (i : Int) (G : List Sp) : Prop := InR i ∧ Fit G
set_option maxHeartbeats 1000000 in
theorem get_any (F : Fv) (i : Int) (w : World) (hF : F.At w) (ok : F.Ok) :
    Calls Try.prog 13 #[F.v, .int .i64 i] w fun e w' => ∃ (v : Value) (k : Int), e = .returned (.tuple #[v, .int .i64 k]) ∧ Below w.heap.size w w' ∧ Hid ((Told i (gr F i) ∧ k = 0 ∧ w'.ownsRow w.heap.size 50 2 v (gr F i).length (spCells (gr F i))) ∨ (¬ Told i (gr F i) ∧ k = 20 ∧ v = .slice none 0 0)) := by
  have HT := Lib.hid (fun W h h1 h2 => ticks_any F i W h ok h1 h2)
  clear ok
  obtain ⟨G, hG⟩ : ∃ g, gr F i = g := ⟨_, rfl⟩
  rw [hG] at HT ⊢
  clear hG
  obtain ⟨P, N, co, cn, cc, oo, on, oc, cs, os⟩ := F
  have LC : Hid (cs.length = cn) := Lib.hid hF.core.len
  have LO : Hid (os.length = on) := Lib.hid hF.odd.len
  have hmc : cn ≤ 9223372036854775807 := Nat.le_trans hF.core.le hF.core.top
  have hmo : on ≤ 9223372036854775807 := Nat.le_trans hF.odd.le hF.odd.top
  obtain ⟨b, hb⟩ : ∃ b, w.heap.size = b := ⟨_, rfl⟩
  obtain ⟨wb, hwb⟩ : ∃ wb, w.alloc (.cells #[.int .i64 P, .int .i64 N, .slice co cn cc, .slice oo on oc] 25) = wb := ⟨_, rfl⟩
  have HBB : Hid (Fbox ⟨P, N, co, cn, cc, oo, on, oc, cs, os⟩ w wb b) := Lib.hid (by rw [← hwb, ← hb]; exact fbox_new hF)
  clear hF
  show Calls Try.prog 13 #[.agg #[.int .i64 P, .int .i64 N, .slice co cn cc, .slice oo on oc], .int .i64 i] w _
  go_enter Try.func13, Try.ntmps13
  go_upto_region 1 with fail
  clear hwb hb
  have e0 : wb.cell? ⟨b, 0, none⟩ = some (.int .i64 P) := HBB.out.c0
  have e1 : wb.cell? ⟨b, 1, none⟩ = some (.int .i64 N) := HBB.out.c1
  have e2 : wb.cell? ⟨b, 2, none⟩ = some (.slice co cn cc) := HBB.out.c2
  have e3 : wb.cell? ⟨b, 3, none⟩ = some (.slice oo on oc) := HBB.out.c3
  have HT : Hid (∀ W, Fv.At ⟨P, N, co, cn, cc, oo, on, oc, cs, os⟩ W → -9223372036854775808 ≤ i → i ≤ 9223372036854775807 → Calls Try.prog 33 #[.agg #[.int .i64 P, .int .i64 N, .slice co cn cc, .slice oo on oc], .int .i64 i] W fun e w' => ∃ (v : Value) (k : Int), e = .returned (.tuple #[v, .int .i64 k]) ∧ Below W.heap.size W w' ∧ Hid ((Fit G ∧ k = 0 ∧ w'.ownsRow W.heap.size 50 2 v G.length (spCells G)) ∨ (¬ Fit G ∧ k = 20 ∧ v = .slice none 0 0))) := HT
  by_cases h1 : i < -1099511627776
  · have HN : Hid (¬ Told i G) := Lib.hid (fun h => by have := h.1.1; omega)
    go_wp2
    go_returns
    exact ⟨_, _, rfl, HBB.out.bw, Lib.hid (.inr ⟨HN.out, rfl, rfl⟩)⟩
  · by_cases h2 : 1099511627776 < i
    · have HN : Hid (¬ Told i G) := Lib.hid (fun h => by have := h.1.2; omega)
      go_wp2
      go_returns
      exact ⟨_, _, rfl, HBB.out.bw, Lib.hid (.inr ⟨HN.out, rfl, rfl⟩)⟩
    · have HI : Hid (InR i) := Lib.hid ⟨by omega, by omega⟩
      go_wp2_with fail
      (with_reducible refine (HT.out _ HBB.out.at_ (by omega) (by omega)).mono ?_)
      rintro e w2 ⟨v, k, rfl, q, HV⟩
      have HSZ := Lib.hid HBB.out.bw.size
      have HBW := Lib.hid (HBB.out.bw.trans (q.mono HBB.out.bw.size))
      clear q
      go_wp2
      go_returns
      refine ⟨v, k, rfl, HBW.out, Lib.hid ?_⟩
      rcases HV.out with ⟨z1, z2, z3⟩ | ⟨z1, z2, z3⟩
      · exact .inl ⟨⟨HI.out, z1⟩, z2, own_base z3 HSZ.out⟩
      · exact .inr ⟨fun h => z1 h.2, z2, z3⟩
theorem free_keep {w w' : World} {a : Addr} {v : Value} (h : w.frozen? a = false) (c : w.cell? a = some v) (b : Below w.heap.size w w') : w'.frozen? a = false := by
  rw [← h]
  unfold World.frozen?
  rw [b.block a.block (cell_here c)]
set_option maxHeartbeats 1000000 in
theorem hullOf_any (F : Fv) (i : Int) (w : World) (hF : F.At w) (ok : F.Ok) (hi1 : -9223372036854775808 ≤ i) (hi2 : i ≤ 9223372036854775807) :
    Calls Try.prog 68 #[F.v, .int .i64 i] w fun e w' => ∃ (x y k : Int), e = .returned (.tuple #[.agg #[.int .i64 x, .int .i64 y], .int .i64 k]) ∧ Below w.heap.size w w' ∧ Hid ((Fit (gr F i) ∧ k = 0 ∧ x = hullA (gr F i) ∧ y = hullB (gr F i)) ∨ (¬ Fit (gr F i) ∧ k = 20)) := by
  have HT := Lib.hid (fun W h => ticks_any F i W h ok hi1 hi2)
  clear ok
  obtain ⟨G, hG⟩ : ∃ g, gr F i = g := ⟨_, rfl⟩
  rw [hG] at HT ⊢
  clear hG
  obtain ⟨P, N, co, cn, cc, oo, on, oc, cs, os⟩ := F
  have LC : Hid (cs.length = cn) := Lib.hid hF.core.len
  have LO : Hid (os.length = on) := Lib.hid hF.odd.len
  have hmc : cn ≤ 9223372036854775807 := Nat.le_trans hF.core.le hF.core.top
  have hmo : on ≤ 9223372036854775807 := Nat.le_trans hF.odd.le hF.odd.top
  obtain ⟨b, hb⟩ : ∃ b, w.heap.size = b := ⟨_, rfl⟩
  obtain ⟨wb, hwb⟩ : ∃ wb, w.alloc (.cells #[.int .i64 P, .int .i64 N, .slice co cn cc, .slice oo on oc] 25) = wb := ⟨_, rfl⟩
  have HBB : Hid (Fbox ⟨P, N, co, cn, cc, oo, on, oc, cs, os⟩ w wb b) := Lib.hid (by rw [← hwb, ← hb]; exact fbox_new hF)
  clear hF
  show Calls Try.prog 68 #[.agg #[.int .i64 P, .int .i64 N, .slice co cn cc, .slice oo on oc], .int .i64 i] w _
  go_enter Try.func68, Try.ntmps68
  go_upto_region 1 with fail
  clear hwb hb
  have HT : Hid (∀ W, Fv.At ⟨P, N, co, cn, cc, oo, on, oc, cs, os⟩ W → Calls Try.prog 33 #[.agg #[.int .i64 P, .int .i64 N, .slice co cn cc, .slice oo on oc], .int .i64 i] W fun e w' => ∃ (v : Value) (k : Int), e = .returned (.tuple #[v, .int .i64 k]) ∧ Below W.heap.size W w' ∧ Hid ((Fit G ∧ k = 0 ∧ w'.ownsRow W.heap.size 50 2 v G.length (spCells G)) ∨ (¬ Fit G ∧ k = 20 ∧ v = .slice none 0 0))) := HT
  obtain ⟨rb, hrb⟩ : ∃ q, wb.heap.size = q := ⟨_, rfl⟩
  obtain ⟨wc, hwc⟩ : ∃ q, wb.alloc (.cells #[.int .i64 0, .int .i64 0] 50) = q := ⟨_, rfl⟩
  have HCB : Hid (Below wb.heap.size wb wc) := Lib.hid (by rw [← hwc]; exact (Below.refl _ wb).alloc (Nat.le_refl _) _)
  have g0 : wc.cell? ⟨rb, 0, none⟩ = some (.int .i64 0) := by rw [← hwc, ← hrb]; exact (box_cells wb (.int .i64 0) (.int .i64 0) 50).1
  have g1 : wc.cell? ⟨rb, 1, none⟩ = some (.int .i64 0) := by rw [← hwc, ← hrb]; exact (box_cells wb (.int .i64 0) (.int .i64 0) 50).2
  have f0 : wc.frozen? ⟨rb, 0, none⟩ = false := by rw [← hwc, ← hrb]; exact box_free wb (.int .i64 0) (.int .i64 0) 50 0
  have f1 : wc.frozen? ⟨rb, 1, none⟩ = false := by rw [← hwc, ← hrb]; exact box_free wb (.int .i64 0) (.int .i64 0) 50 1
  have HRB : Hid (w.heap.size ≤ rb) := Lib.hid (by rw [← hrb]; exact HBB.out.bw.size)
  rw [hwc, hrb]
  clear hwc hrb
  have HBB := Lib.hid (HBB.out.keep HCB.out)
  clear HCB
  have e0 : wc.cell? ⟨b, 0, none⟩ = some (.int .i64 P) := HBB.out.c0
  have e1 : wc.cell? ⟨b, 1, none⟩ = some (.int .i64 N) := HBB.out.c1
  have e2 : wc.cell? ⟨b, 2, none⟩ = some (.slice co cn cc) := HBB.out.c2
  have e3 : wc.cell? ⟨b, 3, none⟩ = some (.slice oo on oc) := HBB.out.c3
  go_wp2_with fail
  (with_reducible refine (HT.out _ HBB.out.at_).mono ?_)
  rintro e w2 ⟨v, k, rfl, q, HV⟩
  have f0 := free_keep f0 g0 q
  have f1 := free_keep f1 g1 q
  have g0 := cell_keep g0 q
  have g1 := cell_keep g1 q
  have HBW := Lib.hid (HBB.out.bw.trans (q.mono HBB.out.bw.size))
  clear q e0 e1 e2 e3 HBB HT
  obtain ⟨ao, n, c, L, rfl, HS, HV2⟩ : ∃ ao n c L, v = .slice ao n c ∧ Hid (SpAt w2 ao n c L) ∧ Hid ((Fit G ∧ k = 0 ∧ L = G) ∨ (¬ Fit G ∧ k = 20)) := by
    rcases HV.out with ⟨z1, z2, z3⟩ | ⟨z1, z2, z3⟩
    · obtain ⟨ao, c, h1, h2⟩ := own_sp rfl z3
      exact ⟨ao, _, c, G, h1, Lib.hid h2, Lib.hid (.inl ⟨z1, z2, rfl⟩)⟩
    · exact ⟨none, 0, 0, [], z3, Lib.hid (SpAt.nil _), Lib.hid (.inr ⟨z1, z2⟩)⟩
  clear HV
  have HH := Lib.hid (hull_v ao n c L w2 HS.out)
  go_wp2_with fail
  (with_reducible refine HH.out.mono ?_)
  rintro e w3 ⟨x, y, okk, rfl, HXY, q⟩
  have g0' := g0
  have g1' := g1
  have g0 := cell_keep g0 q
  have g1 := cell_keep g1 q
  have HBW := Lib.hid (HBW.out.trans (q.mono HBW.out.size))
  have f0 := free_keep f0 g0' q
  have f1 := free_keep f1 g1' q
  clear q HH HS
  have KA := (Below.refl _ w3).alloc (Nat.le_refl _) (.cells #[.int .i64 x, .int .i64 y] 50)
  have f0 := free_keep f0 g0 KA
  have f1 := free_keep f1 g1 KA
  have g0 := cell_keep g0 KA
  have g1 := cell_keep g1 KA
  have x0 := (box_cells w3 (.int .i64 x) (.int .i64 y) 50).1
  have x1 := (box_cells w3 (.int .i64 x) (.int .i64 y) 50).2
  have HBW := Lib.hid (HBW.out.trans (KA.mono HBW.out.size))
  clear KA
  go_wp2
  have HR := Lib.hid ((HBW.out.setCell (p := ⟨rb, 0, none⟩) HRB.out (.int .i64 x)).setCell (p := ⟨rb, 1, none⟩) HRB.out (.int .i64 y))
  exact bodyPost_ret (v := .tuple #[.agg #[.int .i64 x, .int .i64 y], .int .i64 k]) (by simp [results, Try.results68, go_sem, g0, g1]) rfl ⟨x, y, k, rfl, HR.out, Lib.hid (by
    rcases HV2.out with ⟨z1, z2, z3⟩ | ⟨z1, z2⟩
    · exact .inl ⟨z1, z2, by rw [← z3]; exact HXY.out.1, by rw [← z3]; exact HXY.out.2.1⟩
    · exact .inr ⟨z1, z2⟩)⟩
theorem inOrder_any (x y st : Int) (ao : Option Addr) (n c : Nat) (l : List Sp) (w : World) (hl : SpAt w ao n c l) (hn : l ≠ []) (r : Bool) (hr : (if st < 0 then decide (y < hullA l) else decide (hullB l < x)) = r) :
    Calls Try.prog 69 #[.agg #[.int .i64 x, .int .i64 y], .slice ao n c, .int .i64 st] w fun e w' => e = .returned (.bool r) ∧ Below w.heap.size w w' := by
  have LN := hl.len
  have hmx : n ≤ 9223372036854775807 := Nat.le_trans hl.le hl.top
  have h1 : 0 < n := by have := List.length_pos_iff.2 hn; omega
  obtain ⟨g, p, rfl, hc⟩ := hl.here h1
  have hk : n - 1 < l.length := by omega
  have hm : 0 < l.length := by omega
  have KA := (Below.refl _ w).alloc (Nat.le_refl _) (.cells #[.int .i64 x, .int .i64 y] 50)
  have c1 := cell_keep (hc (n - 1) hk).2 KA
  have d1 := cell_keep (hc 0 hm).1 KA
  have v1 := (box_cells w (.int .i64 x) (.int .i64 y) 50).1
  have v2 := (box_cells w (.int .i64 x) (.int .i64 y) 50).2
  have HB := Lib.hid KA
  have e1 : hullA l = l[0].1 := by unfold hullA; rw [List.getD_eq_getElem?_getD, List.getElem?_eq_getElem hm]; rfl
  have e2 : hullB l = l[n - 1].2 := by unfold hullB; rw [LN, List.getD_eq_getElem?_getD, List.getElem?_eq_getElem hk]; rfl
  rw [e1, e2] at hr
  obtain ⟨k, hkk⟩ : ∃ k, n - 1 = k := ⟨_, rfl⟩
  have e4 : IntKind.i64.wrap ((n : Int) - 1) = (k : Int) := by rw [IntWalk.i64_in _ (by omega)]; omega
  have k0 : (0 : Int) ≤ (k : Int) := by omega
  have k1 : (k : Int) < (n : Int) := by omega
  have k3 : (0 : Int) < (n : Int) := by omega
  obtain ⟨X, hX⟩ : ∃ z, l[n - 1].2 = z := ⟨_, rfl⟩
  obtain ⟨Y, hY⟩ : ∃ z, l[0].1 = z := ⟨_, rfl⟩
  rw [hX, hkk] at c1
  rw [hY] at d1
  rw [hX, hY] at hr
  simp only [Nat.zero_mul, Nat.add_zero] at d1
  obtain ⟨bx, hbx⟩ : ∃ q, w.heap.size = q := ⟨_, rfl⟩
  obtain ⟨wb, hwb⟩ : ∃ q, w.alloc (.cells #[.int .i64 x, .int .i64 y] 50) = q := ⟨_, rfl⟩
  have HB : Hid (Below w.heap.size w wb) := Lib.hid (by rw [← hwb]; exact HB.out)
  rw [hwb] at c1 d1 v1 v2
  rw [hbx] at v1 v2
  have HE := Lib.hid hr
  clear hX hY hkk hc hl LN h1 hk hm e1 e2 KA hn hr
  by_cases hs : st < 0
  · rw [if_pos hs] at HE
    go_enter Try.func69, Try.ntmps69
    go_upto_region 1 with fail
    clear hwb hbx
    go_wp2
    go_quiet (fail)
    go_wp2
    go_returns
    exact ⟨ret_bool HE.out, below_drewN HB.out _⟩
  · rw [if_neg hs] at HE
    go_enter Try.func69, Try.ntmps69
    go_upto_region 1 with fail
    clear hwb hbx
    go_wp2
    go_quiet (fail)
    go_wp2
    go_returns
    exact ⟨ret_bool HE.out, below_drewN HB.out _⟩
/-- A slice of int. -/
structure InAt (w : World) (ao : Option Addr) (n c : Nat) (l : List Nat) : Prop where
  len : l.length = n
  le : n ≤ c
  top : c ≤ 9223372036854775807
  bare : ao = none → n = 0 ∧ c = 0
  here : 0 < n → ∃ b p, ao = some ⟨b, p, none⟩ ∧ ∀ i (h : i < l.length), w.cell? ⟨b, p + i, none⟩ = some (.int .i64 (l[i] : Nat))
theorem InAt.keep {w w' : World} {ao : Option Addr} {n c : Nat} {l : List Nat} (h : InAt w ao n c l) (k : Below w.heap.size w w') : InAt w' ao n c l :=
  ⟨h.len, h.le, h.top, h.bare, fun h0 => by
    obtain ⟨b, p, e, hc⟩ := h.here h0
    exact ⟨b, p, e, fun i hi => cell_keep (hc i hi) k⟩⟩
/-- Where a number is in a rising list, or would be. -/
structure NIs (l : List Nat) (t i : Nat) : Prop where
  low : ∀ j (h : j < l.length), j < i → l[j] < t
  high : ∀ j (h : j < l.length), i ≤ j → t ≤ l[j]
theorem ninc_at {l : List Nat} (h : l.Pairwise (· < ·)) (i j : Nat) (hi : i < l.length) (hj : j < l.length) (q : i < j) : l[i] < l[j] := List.pairwise_iff_getElem.1 h i j hi hj q
theorem ninc_le {l : List Nat} (h : l.Pairwise (· < ·)) (i j : Nat) (hi : i < l.length) (hj : j < l.length) (q : i ≤ j) : l[i] ≤ l[j] := by
  by_cases e : i = j
  · subst e; exact Nat.le_refl _
  · have := ninc_at h i j hi hj (by omega); omega
/-- What a search tells. -/
def BsOut (l : List Nat) (t n : Nat) (e : Ending) : Prop := ∃ (i : Nat) (f : Bool), i ≤ n ∧ e = .returned (.tuple #[.int .i64 i, .bool f]) ∧ Hid (NIs l t i) ∧ Hid (f = true ↔ ∃ h : i < l.length, l[i] = t)
set_option maxHeartbeats 1000000 in
theorem bs_any (ao : Option Addr) (n c : Nat) (l : List Nat) (t : Nat) (w : World) (ha : InAt w ao n c l) (hs : l.Pairwise (· < ·)) (hn : n ≤ 1099511627776) :
    Calls Try.prog 91 #[.slice ao n c, .int .i64 t] w fun e w' => BsOut l t n e ∧ Hid (w' = w) := by
  have HA := Lib.hid ha
  have LA := Lib.hid ha.len
  have HS := Lib.hid hs
  clear ha hs
  go_enter Try.func91, Try.ntmps91
  go_wp2
  go_loopw [7, 8] (fun i j wr => ∃ a b : Nat, i = .int .i64 a ∧ j = .int .i64 b ∧ a ≤ b ∧ b ≤ n ∧ Hid ((∀ j (h : j < l.length), j < a → l[j] < t) ∧ ∀ j (h : j < l.length), b ≤ j → t ≤ l[j]) ∧ wr = w) (fun i j _ => (intOf j - intOf i).toNat)
  case atStart => exact ⟨0, n, rfl, rfl, Nat.zero_le _, Nat.le_refl _, Lib.hid ⟨fun j _ h => absurd h (Nat.not_lt_zero _), fun j h q => by have := LA.out; omega⟩, rfl⟩
  case round =>
    obtain ⟨a, b, rfl, rfl, hab, hbn, HI, rfl⟩ := hrel
    by_cases hlt : a < b
    · obtain ⟨m, hm⟩ : ∃ m : Nat, (a + b) / 2 = m := ⟨_, rfl⟩
      have hm1 : a ≤ m := by omega
      have hm2 : m < b := by omega
      have hmi : ((a : Int) + (b : Int)) / 2 = (m : Int) := by omega
      obtain ⟨g, p, rfl, hc⟩ := HA.out.here (by omega)
      have hml : m < l.length := by rw [LA.out]; omega
      have d1 := hc m hml
      have HL : Hid (∀ j (h : j < l.length), j ≤ m → l[j] ≤ l[m]'hml) := Lib.hid (fun j h q => ninc_le HS.out j m h hml q)
      have HH : Hid (∀ j (h : j < l.length), m ≤ j → l[m]'hml ≤ l[j]) := Lib.hid (fun j h q => ninc_le HS.out m j hml h q)
      clear hm hc
      obtain ⟨z, hz⟩ : ∃ q, l[m]'hml = q := ⟨_, rfl⟩
      rw [hz] at d1 HL HH
      clear hz
      clear hml
      have m0 : (0 : Int) ≤ (m : Int) := by omega
      have m1 : (m : Int) < (n : Int) := by omega
      by_cases hq : z < t
      · have HI2 : Hid ((∀ j (h : j < l.length), j < m + 1 → l[j] < t) ∧ ∀ j (h : j < l.length), b ≤ j → t ≤ l[j]) := Lib.hid ⟨fun j h q => by have := HL.out j h (by omega); omega, HI.out.2⟩
        have HCL := Lib.hid (fun W => cmpLess_any (z : Int) (t : Int) true (decide_eq_true (by omega)) W)
        clear HI HL HH
        go_wp2_with fail
        (with_reducible refine (HCL.out _).mono ?_)
        rintro e w1 ⟨rfl, rfl⟩
        go_wp2
        go_roundw
        case rel => exact ⟨m + 1, b, by go_num, rfl, by omega, hbn, HI2, trivial⟩
        case measure => simp [intOf]; omega
      · have HI2 : Hid ((∀ j (h : j < l.length), j < a → l[j] < t) ∧ ∀ j (h : j < l.length), m ≤ j → t ≤ l[j]) := Lib.hid ⟨HI.out.1, fun j h q => by have := HH.out j h q; omega⟩
        have HCL := Lib.hid (fun W => cmpLess_any (z : Int) (t : Int) false (decide_eq_false (by omega)) W)
        clear HI HL HH
        go_wp2_with fail
        (with_reducible refine (HCL.out _).mono ?_)
        rintro e w1 ⟨rfl, rfl⟩
        go_wp2
        go_roundw
        case rel => exact ⟨a, m, rfl, rfl, hm1, by omega, HI2, trivial⟩
        case measure => simp [intOf]; omega
    · obtain rfl : a = b := by omega
      by_cases hn2 : a < n
      · obtain ⟨g, p, rfl, hc⟩ := HA.out.here (by omega)
        have hml : a < l.length := by rw [LA.out]; omega
        have d1 := hc a hml
        have HZ2 : Hid (l[a]'hml = t ↔ ∃ h : a < l.length, l[a] = t) := Lib.hid ⟨fun h => ⟨hml, h⟩, fun ⟨_, h⟩ => h⟩
        clear hc
        obtain ⟨z, hz⟩ : ∃ q, l[a]'hml = q := ⟨_, rfl⟩
        rw [hz] at d1 HZ2
        clear hz
        clear hml
        have m0 : (0 : Int) ≤ (a : Int) := by omega
        have m1 : (a : Int) < (n : Int) := by omega
        by_cases hzt : z = t
        · have HF : Hid (∃ h : a < l.length, l[a] = t) := Lib.hid (HZ2.out.1 hzt)
          have t1 : ((z : Int) == (t : Int)) = true := by simp; omega
          clear HZ2 hzt
          go_wp2_with fail
          go_returns
          exact ⟨⟨a, true, hbn, rfl, Lib.hid ⟨HI.out.1, HI.out.2⟩, Lib.hid ⟨fun _ => HF.out, fun _ => rfl⟩⟩, Lib.hid rfl⟩
        · have HF : Hid (false = true ↔ ∃ h : a < l.length, l[a] = t) := Lib.hid ⟨fun h => (by cases h), fun h => absurd (HZ2.out.2 h) hzt⟩
          have t1 : ((z : Int) == (t : Int)) = false := by simp; omega
          clear HZ2 hzt
          go_wp2_with (go_at_call 93; (with_reducible refine (isNaN2_any _ _).mono ?_); rintro e w' ⟨rfl, rfl⟩)
          go_returns
          exact ⟨⟨a, false, hbn, rfl, Lib.hid ⟨HI.out.1, HI.out.2⟩, HF⟩, Lib.hid rfl⟩
      · have hf : a = n := by omega
        go_wp2
        go_returns
        exact ⟨⟨a, false, hbn, rfl, Lib.hid ⟨HI.out.1, HI.out.2⟩, Lib.hid ⟨fun h => (by cases h), fun ⟨h, _⟩ => by have := LA.out; omega⟩⟩, Lib.hid rfl⟩
end Go.Proofs.Ytmjapbjjfhmohaa
