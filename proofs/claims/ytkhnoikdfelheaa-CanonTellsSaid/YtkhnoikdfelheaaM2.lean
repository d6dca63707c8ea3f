/- Contracts: usual, of canon. -/
import Derived.Test.YtkhnoikdfelheaaM1
import Derived.Test.YtkhnoikdfelheaaG9
import Derived.Test.YtkhnoikdfelheaaK1
import Derived.Deep.RegionHeld3
namespace Go.Proofs.Ytkhnoikdfelheaa
set_option linter.unusedVariables false
set_option linter.unusedSimpArgs false
open Go.ChangeShapes Go.WideShapes Go.ChangeAt Go.RowKit
theorem moved_fit {l : List Sp} {d : Int} {k : List Sp} (h : moved l d = k) (g : Good k) : Fit (moved l d) := by rw [h]; exact fit_good g
set_option maxHeartbeats 4000000 in
theorem usual_any (F : Fv) (X : Int) (lo : Option Addr) (lm ld : Nat) (L : List Sp) (w : World) (hF : F.At w) (ok : F.Ok) (hL : SpAt w lo lm ld L) (gL : Good L) (hX : InR X) (r : Bool) (hr : r = true ↔ L = cg F.cs F.P F.N X) :
    Calls Try.prog 27 #[F.v, .agg #[.int .i64 X, .slice lo lm ld]] w fun e w' => e = .returned (.bool r) ∧ Below w.heap.size w w' := by
  have HR := Lib.hid hr
  have HK := Lib.hid ok
  have hmeas := ok.meas
  have cn1 := ok.cn
  obtain ⟨hX1, hX2⟩ := hX
  have HLN := Lib.hid hL.len
  have hml : lm ≤ 9223372036854775807 := Nat.le_trans hL.le hL.top
  have HGL := Lib.hid gL
  clear hr ok gL
  obtain ⟨P, N, co, cn, cc, oo, on, oc, cs, os⟩ := F
  have LC : Hid (cs.length = cn) := Lib.hid hF.core.len
  have hmc : cn ≤ 9223372036854775807 := Nat.le_trans hF.core.le hF.core.top
  have HR : Hid (r = true ↔ L = cg cs P N X) := HR
  have cn1 : cn ≤ 1000000 := cn1
  have hmeas : (N = 0 ∧ P = 0 ∧ cn = 0) ∨ (N ≠ 0 ∧ N = cn ∧ 1 ≤ P ∧ P ≤ 1099511627776) := hmeas
  obtain ⟨b, hb⟩ : ∃ b, w.heap.size = b := ⟨_, rfl⟩
  obtain ⟨wb, hwb⟩ : ∃ wb, w.alloc (.cells #[.int .i64 P, .int .i64 N, .slice co cn cc, .slice oo on oc] 25) = wb := ⟨_, rfl⟩
  have HBB : Hid (Fbox ⟨P, N, co, cn, cc, oo, on, oc, cs, os⟩ w wb b) := Lib.hid (by rw [← hwb, ← hb]; exact fbox_new hF)
  have hL := hL.keep HBB.out.bw
  obtain ⟨b2, hb2⟩ : ∃ b2, b + 1 = b2 := ⟨_, rfl⟩
  have hszb : wb.heap.size = b2 := by rw [← hwb, ← hb2, ← hb]; simp
  obtain ⟨wc, hwc⟩ : ∃ wc, wb.alloc (.cells #[.int .i64 X, .slice lo lm ld] 43) = wc := ⟨_, rfl⟩
  have KA : Below wb.heap.size wb wc := by rw [← hwc]; exact (Below.refl _ wb).alloc (Nat.le_refl _) _
  have x0 := (box_cells wb (.int .i64 X) (.slice lo lm ld) 43).1
  have x1 := (box_cells wb (.int .i64 X) (.slice lo lm ld) 43).2
  rw [hwc, hszb] at x0 x1
  have HBB := Lib.hid (HBB.out.keep KA)
  have HSL := Lib.hid (hL.keep KA)
  have HX0 := Lib.hid x0
  have HX1 := Lib.hid x1
  clear hF hL KA
  show Calls Try.prog 27 #[.agg #[.int .i64 P, .int .i64 N, .slice co cn cc, .slice oo on oc], .agg #[.int .i64 X, .slice lo lm ld]] w _
  go_enter Try.func27, Try.ntmps27
  go_upto_region 1 with fail
  clear hwb hb hwc hb2 hszb
  have e0 : wc.cell? ⟨b, 0, none⟩ = some (.int .i64 P) := HBB.out.c0
  have e1 : wc.cell? ⟨b, 1, none⟩ = some (.int .i64 N) := HBB.out.c1
  have e2 : wc.cell? ⟨b, 2, none⟩ = some (.slice co cn cc) := HBB.out.c2
  have HLB : Hid (L = [] ↔ lm = 0) := Lib.hid ⟨fun h => by rw [← HLN.out, h]; rfl, fun h => List.eq_nil_of_length_eq_zero (by rw [HLN.out]; exact h)⟩
  by_cases n0 : N = 0
  · have HE : Hid (r = true ↔ lm = 0) := Lib.hid (by rw [HR.out, cg_out (fun f => by have := f.1; omega), HLB.out])
    have t0 : (N == 0) = true := by simp; exact n0
    clear hmeas n0
    by_cases z : lm = 0
    · have t1 : ((lm : Int) == 0) = true := by simp; exact z
      have HE2 : Hid (true = r) := Lib.hid (HE.out.2 z).symm
      go_wp2
      go_returns
      exact ⟨ret_bool HE2.out, HBB.out.bw⟩
    · have t1 : ((lm : Int) == 0) = false := by simp; exact z
      have HE2 : Hid (false = r) := Lib.hid (by cases r; rfl; exact absurd (HE.out.1 rfl) z)
      go_wp2
      go_returns
      exact ⟨ret_bool HE2.out, HBB.out.bw⟩
  · have t0 : (N == 0) = false := by simp; exact n0
    obtain ⟨m1, m2, m3⟩ : N = (cn : Int) ∧ 1 ≤ P ∧ P ≤ 1099511627776 := by
      rcases hmeas with ⟨h, _⟩ | ⟨_, h1, h2, h3⟩
      · exact absurd h n0
      · exact ⟨h1, h2, h3⟩
    subst m1
    have np : (0 : Int) < (cn : Int) := by omega
    have r3 : (cn : Int) ≠ 0 := by omega
    have r4 : ¬ (X = -9223372036854775808 ∧ (cn : Int) = -1) := by omega
    clear hmeas n0
    have HFU : Hid (Full cs (cn : Int)) := Lib.hid ⟨np, by rw [LC.out]⟩
    have HM := Lib.hid (fmod_nat X np)
    have HD := Lib.hid (fdiv_in X np (by omega) (by omega))
    have HFL := Lib.hid (fun W => floor_ok X cn W (by omega) (by omega) (by omega) (by omega) r3 r4)
    have HCG : Hid (cg cs P (cn : Int) X = moved (cset cs (cn : Int) X) (P * X.fdiv (cn : Int))) := Lib.hid (cg_in HFU.out)
    have HCS : Hid (cset cs (cn : Int) X = cs.getD (X.fmod (cn : Int)).toNat []) := Lib.hid rfl
    obtain ⟨at_, hat⟩ : ∃ q, X.fmod (cn : Int) = q := ⟨_, rfl⟩
    obtain ⟨tn, htn⟩ : ∃ q, X.fdiv (cn : Int) = q := ⟨_, rfl⟩
    rw [hat] at HM HFL HCS
    rw [htn] at HD HFL HCG
    obtain ⟨a0, a1⟩ := HM.out
    obtain ⟨d0, d1⟩ := HD.out
    clear hat htn
    obtain ⟨k, rfl⟩ : ∃ k : Nat, at_ = (k : Int) := ⟨at_.toNat, by omega⟩
    have klt : k < cn := by omega
    obtain ⟨g, p, rfl, hc⟩ := (show CoAt wc co cn cc cs from HBB.out.at_.core).here (by omega)
    have hkl : k < cs.length := by rw [LC.out]; exact klt
    obtain ⟨o, m, d, c1, c2⟩ := hc k hkl
    have HL : Hid (cs.getD ((k : Int)).toNat [] = cs[k]'hkl) := Lib.hid (by rw [Int.toNat_natCast, List.getD_eq_getElem?_getD, List.getElem?_eq_getElem hkl]; rfl)
    have HGO : Hid (Good (cs[k]'hkl)) := Lib.hid (HK.out.core _ (List.getElem_mem hkl))
    have HSP := Lib.hid c2
    obtain ⟨C, hC⟩ : ∃ q, (cs[k]'hkl) = q := ⟨_, rfl⟩
    rw [hC] at HL HGO HSP
    have HE : Hid (r = true ↔ moved C (P * tn) = L) := Lib.hid (by
      rw [HR.out, HCG.out, HCS.out, HL.out]
      exact eq_comm)
    clear hC hc c2 HL HCG HCS HM HR HK
    clear hkl
    have k0 : (0 : Int) ≤ (k : Int) := by omega
    have k1 : (k : Int) < (cn : Int) := by omega
    have hmm : m ≤ 9223372036854775807 := Nat.le_trans HSP.out.le HSP.out.top
    have HLM := Lib.hid HSP.out.len
    go_wp2_with fail
    (with_reducible refine (HFL.out _).mono ?_)
    rintro e w4 ⟨rfl, nd, hw4⟩
    have HB4 : Hid (Below wc.heap.size wc w4) := Lib.hid (by rw [hw4]; exact below_drewN (Below.refl _ _) _)
    clear hw4
    have HBB := Lib.hid (HBB.out.keep HB4.out)
    have HSP := Lib.hid (HSP.out.keep HB4.out)
    have HSL := Lib.hid (HSL.out.keep HB4.out)
    have c1 := cell_keep c1 HB4.out
    have x1 := cell_keep x1 HB4.out
    clear e0 e1 e2 HFL HB4 x0
    have e0 : w4.cell? ⟨b, 0, none⟩ = some (.int .i64 P) := HBB.out.c0
    have e2 : w4.cell? ⟨b, 2, none⟩ = some (.slice (some ⟨g, p, none⟩) cn cc) := HBB.out.c2
    by_cases hm : m = 0
    · have HC0 : Hid (C = []) := Lib.hid (List.eq_nil_of_length_eq_zero (by rw [HLM.out]; exact hm))
      have HE2 : Hid (r = true ↔ lm = 0) := Lib.hid (by rw [HE.out, HC0.out, ← HLB.out]; exact eq_comm)
      have t1 : ((m : Int) == 0) = true := by simp; omega
      by_cases z : lm = 0
      · have t2 : ((lm : Int) == 0) = true := by simp; exact z
        have HE3 : Hid (true = r) := Lib.hid (HE2.out.2 z).symm
        go_wp2
        go_returns
        exact ⟨ret_bool HE3.out, HBB.out.bw⟩
      · have t2 : ((lm : Int) == 0) = false := by simp; exact z
        have HE3 : Hid (false = r) := Lib.hid (by cases r; rfl; exact absurd (HE2.out.1 rfl) z)
        go_wp2
        go_returns
        exact ⟨ret_bool HE3.out, HBB.out.bw⟩
    · have t1 : ((m : Int) == 0) = false := by simp; omega
      have HNE : Hid (C ≠ []) := Lib.hid (fun h => by have := HLM.out; rw [h] at this; simp at this; omega)
      by_cases hv : -9223372036854775808 ≤ P * tn ∧ P * tn ≤ 9223372036854775807
      · have HML := Lib.hid (fun W => mul_ok P tn W (by omega) (by omega) d0 d1 hv.1 hv.2)
        obtain ⟨by_, hby⟩ : ∃ q, P * tn = q := ⟨_, rfl⟩
        rw [hby] at HML HE
        obtain ⟨v1, v2⟩ := hv
        rw [hby] at v1 v2
        have HMV := Lib.hid (fun W (h : Below w4.heap.size w4 W) => movedF_any o lo m d lm ld C L by_ W (HSP.out.keep h) (HSL.out.keep h) HGO.out HGL.out v1 v2 r HE.out)
        clear hby v1 v2
        go_wp2_with fail
        (with_reducible refine (HML.out _).mono ?_)
        rintro e w5 ⟨rfl, rfl⟩
        go_upto_region 7 with fail
        have KP : Hid (∀ W W' (h : Hid (Below w4.heap.size w4 W) ∧ W.cell? ⟨b, 2, none⟩ = some (.slice (some ⟨g, p, none⟩) cn cc) ∧ W.cell? ⟨g, p + k, none⟩ = some (.slice o m d) ∧ W.cell? ⟨b2, 1, none⟩ = some (.slice lo lm ld)), Below W.heap.size W W' → Hid (Below w4.heap.size w4 W') ∧ W'.cell? ⟨b, 2, none⟩ = some (.slice (some ⟨g, p, none⟩) cn cc) ∧ W'.cell? ⟨g, p + k, none⟩ = some (.slice o m d) ∧ W'.cell? ⟨b2, 1, none⟩ = some (.slice lo lm ld)) := Lib.hid (fun W W' h q => ⟨Lib.hid (h.1.out.trans (q.mono h.1.out.size)), cell_keep h.2.1 q, cell_keep h.2.2.1 q, cell_keep h.2.2.2 q⟩)
        have E1 := Lib.hid (fun W (h : Hid (Below w4.heap.size w4 W) ∧ W.cell? ⟨b, 2, none⟩ = some (.slice (some ⟨g, p, none⟩) cn cc) ∧ W.cell? ⟨g, p + k, none⟩ = some (.slice o m d) ∧ W.cell? ⟨b2, 1, none⟩ = some (.slice lo lm ld)) => HMV.out W h.1.out)
        have S0 := Lib.hid (KP.out w4 w4.drew ⟨Lib.hid (Below.refl _ _), e2, c1, x1⟩ (Below.refl _ w4).drew)
        clear e2 c1 x1 HMV e0
        go_region_held3 (fun W => Hid (Below w4.heap.size w4 W) ∧ W.cell? ⟨b, 2, none⟩ = some (.slice (some ⟨g, p, none⟩) cn cc) ∧ W.cell? ⟨g, p + k, none⟩ = some (.slice o m d) ∧ W.cell? ⟨b2, 1, none⟩ = some (.slice lo lm ld)) (first | exact S0.out | exact S1.out)
          ((first
            | (go_at_call 49; (with_reducible refine (E1.out _ (by assumption)).mono ?_); rintro e w6 ⟨rfl, qq⟩; have S1 := Lib.hid (KP.out _ _ (by assumption) qq))
            | fail))
        have HB6 := Lib.hid (HBB.out.keep S1.out.1.out)
        clear S0 S1 KP E1
        go_wp2
        go_returns
        exact ⟨rfl, HB6.out.bw⟩
      · have HML := Lib.hid (fun W => mul_over P tn W (by omega) (by omega) d0 d1 (by omega))
        have HE3 : Hid (false = r) := Lib.hid (by
          cases r
          · rfl
          · have h := HE.out.1 rfl
            exact absurd (moved_fit h HGL.out) (far_out HGO.out HNE.out (by omega)))
        clear hv
        go_wp2_with fail
        (with_reducible refine (HML.out _).mono ?_)
        rintro e w5 ⟨rfl, rfl⟩
        go_upto_region 7 with fail
        go_quiet (fail)
        go_wp2
        go_returns
        exact ⟨ret_bool HE3.out, below_drewN HBB.out.bw _⟩
end Go.Proofs.Ytkhnoikdfelheaa
