/- Contracts: ticks, Get, hullOf. -/
import Derived.Test.YtacpcokmgahjaaaDoorG7
namespace Go.Proofs.YtacpcokmgahjaaaDoor
set_option linter.unusedVariables false
set_option linter.unusedSimpArgs false
open Go.ChangeShapes Go.WideShapes Go.ChangeAt Go.RowKit
theorem own_base {w : World} {B C e s n : Nat} {v : Value} {xs : List Value} (h : w.ownsRow B e s v n xs) (hb : C ≤ B) : w.ownsRow C e s v n xs := by
  obtain ⟨h1, h2⟩ := h
  refine ⟨h1, ?_⟩
  rcases h2 with h2 | ⟨g, cap, cur, e1, e2, e3⟩
  · exact .inl h2
  · exact .inr ⟨g, cap, cur, e1, Nat.le_trans hb e2, e3⟩
set_option maxHeartbeats 2000000 in
theorem ticks_any (F : Fv) (i : Int) (w : World) (hF : F.At w) (ok : F.Ok) (hi1 : -9223372036854775808 ≤ i) (hi2 : i ≤ 9223372036854775807) :
    Calls Tryd.prog 33 #[F.v, .int .i64 i] w fun e w' => ∃ (v : Value) (k : Int), e = .returned (.tuple #[v, .int .i64 k]) ∧ Below w.heap.size w w' ∧ Hid ((Fit (gr F i) ∧ k = 0 ∧ w'.ownsRow w.heap.size 42 2 v (gr F i).length (spCells (gr F i))) ∨ (¬ Fit (gr F i) ∧ k = 20 ∧ v = .slice none 0 0)) := by
  have HO := Lib.hid (fun W h => odd_any F i W h ok.odd.inc (Nat.le_trans ok.on (by omega)))
  obtain ⟨rp, hrp⟩ : ∃ r : Bool, r = true ↔ F.Rep := by classical exact ⟨decide _, decide_eq_true_iff⟩
  have HRP := Lib.hid (fun W h => repeats_any F W h rp hrp)
  have HR := Lib.hid hrp
  have HK := Lib.hid ok
  clear hrp
  have on1 := ok.on
  have cn1 := ok.cn
  clear ok
  obtain ⟨G, hG⟩ : ∃ g, gr F i = g := ⟨_, rfl⟩
  rw [hG]
  have HG := Lib.hid hG
  clear hG
  obtain ⟨P, N, co, cn, cc, oo, on, oc, cs, os⟩ := F
  have LC : Hid (cs.length = cn) := Lib.hid hF.core.len
  have LO : Hid (os.length = on) := Lib.hid hF.odd.len
  have hmc : cn ≤ 9223372036854775807 := Nat.le_trans hF.core.le hF.core.top
  have hmo : on ≤ 9223372036854775807 := Nat.le_trans hF.odd.le hF.odd.top
  have on1 : on ≤ 1000000 := on1
  have cn1 : cn ≤ 1000000 := cn1
  have n1 : -9223372036854775808 ≤ N := hF.n1
  have n2 : N ≤ 9223372036854775807 := hF.n2
  have p1 : -9223372036854775808 ≤ P := hF.p1
  have p2 : P ≤ 9223372036854775807 := hF.p2
  have HR : Hid (rp = true ↔ 0 < N ∧ N = cn) := HR
  obtain ⟨b, hb⟩ : ∃ b, w.heap.size = b := ⟨_, rfl⟩
  obtain ⟨wb, hwb⟩ : ∃ wb, w.alloc (.cells #[.int .i64 P, .int .i64 N, .slice co cn cc, .slice oo on oc] 29) = wb := ⟨_, rfl⟩
  have HBB : Hid (Fbox ⟨P, N, co, cn, cc, oo, on, oc, cs, os⟩ w wb b) := Lib.hid (by rw [← hwb, ← hb]; exact fbox_new hF)
  clear hF
  show Calls Tryd.prog 33 #[.agg #[.int .i64 P, .int .i64 N, .slice co cn cc, .slice oo on oc], .int .i64 i] w _
  go_enter Tryd.func33, Tryd.ntmps33
  go_upto_region 1 with fail
  clear hwb hb
  have e0 : wb.cell? ⟨b, 0, none⟩ = some (.int .i64 P) := HBB.out.c0
  have e1 : wb.cell? ⟨b, 1, none⟩ = some (.int .i64 N) := HBB.out.c1
  have e2 : wb.cell? ⟨b, 2, none⟩ = some (.slice co cn cc) := HBB.out.c2
  have e3 : wb.cell? ⟨b, 3, none⟩ = some (.slice oo on oc) := HBB.out.c3
  have HO : Hid (∀ W, Fv.At ⟨P, N, co, cn, cc, oo, on, oc, cs, os⟩ W → Calls Tryd.prog 57 #[.agg #[.int .i64 P, .int .i64 N, .slice co cn cc, .slice oo on oc], .int .i64 i] W fun e w' => ∃ (n : Nat) (f : Bool), n ≤ on ∧ e = .returned (.tuple #[.int .i64 n, .bool f]) ∧ Hid (OIs os i n) ∧ Hid (f = true ↔ ∃ h : n < os.length, os[n].1 = i) ∧ Hid (Below W.heap.size W w')) := HO
  have HRP : Hid (∀ W, Fv.At ⟨P, N, co, cn, cc, oo, on, oc, cs, os⟩ W → Calls Tryd.prog 58 #[.agg #[.int .i64 P, .int .i64 N, .slice co cn cc, .slice oo on oc]] W fun e w' => e = .returned (.bool rp) ∧ Below W.heap.size W w') := HRP
  go_wp2_with fail
  (with_reducible refine (HO.out _ HBB.out.at_).mono ?_)
  rintro e w2 ⟨n, f, hn, rfl, HI, HFd, q⟩
  have HBB := Lib.hid (HBB.out.keep q.out)
  clear q e0 e1 e2 e3
  have e0 : w2.cell? ⟨b, 0, none⟩ = some (.int .i64 P) := HBB.out.c0
  have e1 : w2.cell? ⟨b, 1, none⟩ = some (.int .i64 N) := HBB.out.c1
  have e2 : w2.cell? ⟨b, 2, none⟩ = some (.slice co cn cc) := HBB.out.c2
  have e3 : w2.cell? ⟨b, 3, none⟩ = some (.slice oo on oc) := HBB.out.c3
  cases f
  · have HX : Hid (exc os i = none) := Lib.hid (ois_none HK.out.odd.inc HI.out (fun h => by have := HFd.out.2 h; cases this))
    have HGc : Hid (G = cg cs P N i) := Lib.hid (by rw [← HG.out]; unfold gr; rw [HX.out])
    go_wp2_with fail
    (with_reducible refine (HRP.out _ HBB.out.at_).mono ?_)
    rintro e w3 ⟨rfl, q⟩
    have HBB := Lib.hid (HBB.out.keep q)
    clear q e0 e1 e2 e3
    cases rp
    · have HE : Hid (G = []) := Lib.hid (by
        rw [HGc.out]; unfold cg
        rw [if_neg (by rw [LC.out]; exact fun h => by have := HR.out.2 h; cases this)])
      go_wp2
      go_returns
      exact ⟨_, _, rfl, HBB.out.bw, Lib.hid (.inl ⟨(by rw [HE.out]; intro s hs; cases hs), rfl, by rw [HE.out]; exact World.ownsRow_nil _ _ _ _⟩)⟩
    · obtain ⟨r1, rfl⟩ := HR.out.1 rfl
      have e0 : w3.cell? ⟨b, 0, none⟩ = some (.int .i64 P) := HBB.out.c0
      have e1 : w3.cell? ⟨b, 1, none⟩ = some (.int .i64 (cn : Int)) := HBB.out.c1
      have e2 : w3.cell? ⟨b, 2, none⟩ = some (.slice co cn cc) := HBB.out.c2
      have r3 : (cn : Int) ≠ 0 := by omega
      have r4 : ¬ (i = -9223372036854775808 ∧ (cn : Int) = -1) := by omega
      have HM := Lib.hid (fmod_nat i r1)
      have HD := Lib.hid (fdiv_in i r1 hi1 hi2)
      have HFL := Lib.hid (fun W => floor_ok i cn W hi1 hi2 n1 n2 r3 r4)
      obtain ⟨at_, hat⟩ : ∃ q, i.fmod (cn : Int) = q := ⟨_, rfl⟩
      obtain ⟨tn, htn⟩ : ∃ q, i.fdiv (cn : Int) = q := ⟨_, rfl⟩
      rw [hat] at HM HFL
      rw [htn] at HD HFL
      obtain ⟨a0, a1⟩ := HM.out
      obtain ⟨d0, d1⟩ := HD.out
      have HGd : Hid (G = moved (cs.getD at_.toNat []) (P * tn)) := Lib.hid (by
        rw [HGc.out]; unfold cg cset
        rw [if_pos ⟨r1, by rw [LC.out]⟩, hat, htn])
      clear hat htn HGc
      obtain ⟨k, rfl⟩ : ∃ k : Nat, at_ = (k : Int) := ⟨at_.toNat, by omega⟩
      have klt : k < cn := by omega
      obtain ⟨g, p, rfl, hc⟩ := (show CoAt w3 co cn cc cs from HBB.out.at_.core).here (by omega)
      have hkl : k < cs.length := by rw [LC.out]; exact klt
      obtain ⟨o, m, d, c1, c2⟩ := hc k hkl
      have HL : Hid (cs.getD ((k : Int)).toNat [] = cs[k]'hkl) := Lib.hid (by rw [Int.toNat_natCast, List.getD_eq_getElem?_getD, List.getElem?_eq_getElem hkl]; rfl)
      have m1 : m ≤ 1000000 := by rw [← c2.len]; exact HK.out.lenC _ (List.getElem_mem hkl)
      have HGO : Hid (Good (cs[k]'hkl)) := Lib.hid (HK.out.core _ (List.getElem_mem hkl))
      have HSP := Lib.hid c2
      obtain ⟨L, hL⟩ : ∃ q, (cs[k]'hkl) = q := ⟨_, rfl⟩
      rw [hL] at HL HGO HSP
      clear hL hc c2
      clear hkl
      rw [HL.out] at HGd
      clear HL
      have k0 : (0 : Int) ≤ (k : Int) := by omega
      have k1 : (k : Int) < (cn : Int) := by omega
      have HLM := Lib.hid HSP.out.len
      go_wp2_with fail
      (with_reducible refine (HFL.out _).mono ?_)
      rintro e w4 ⟨rfl, nd, hw4⟩
      have HB4 : Hid (Below w3.heap.size w3 w4) := Lib.hid (by rw [hw4]; exact below_drewN (Below.refl _ _) _)
      clear hw4
      have HBB := Lib.hid (HBB.out.keep HB4.out)
      have HSP := Lib.hid (HSP.out.keep HB4.out)
      have c1 := cell_keep c1 HB4.out
      clear e0 e1 e2 HFL HB4
      have e0 : w4.cell? ⟨b, 0, none⟩ = some (.int .i64 P) := HBB.out.c0
      have e2 : w4.cell? ⟨b, 2, none⟩ = some (.slice (some ⟨g, p, none⟩) cn cc) := HBB.out.c2
      by_cases hm : m = 0
      · have HE : Hid (G = []) := Lib.hid (by
          have : L = [] := List.eq_nil_of_length_eq_zero (by rw [HLM.out]; exact hm)
          rw [HGd.out, this]; rfl)
        have t1 : ((m : Int) == 0) = true := by simp; omega
        go_wp2
        go_returns
        exact ⟨_, _, rfl, HBB.out.bw, Lib.hid (.inl ⟨(by rw [HE.out]; intro s hs; cases hs), rfl, by rw [HE.out]; exact World.ownsRow_nil _ _ _ _⟩)⟩
      · have t1 : ((m : Int) == 0) = false := by simp; omega
        have HNE : Hid (L ≠ []) := Lib.hid (fun h => by have := HLM.out; rw [h] at this; simp at this; omega)
        by_cases hv : -9223372036854775808 ≤ P * tn ∧ P * tn ≤ 9223372036854775807
        · have HML := Lib.hid (fun W => mul_ok P tn W p1 p2 d0 d1 hv.1 hv.2)
          have HMV := Lib.hid (fun W h => move_any o m d L HGO.out m1 (P * tn) hv.1 hv.2 W h)
          obtain ⟨by_, hby⟩ : ∃ q, P * tn = q := ⟨_, rfl⟩
          rw [hby] at HML HMV HGd
          clear hv hby
          go_wp2_with fail
          (with_reducible refine (HML.out _).mono ?_)
          rintro e w5 ⟨rfl, rfl⟩
          go_wp2_with fail
          (with_reducible refine (HMV.out _ HSP.out).mono ?_)
          rintro e w6 ⟨v, k6, rfl, b6, HV⟩
          have HV := Lib.hid HV
          have HBW := Lib.hid (HBB.out.bw.trans (b6.mono HBB.out.bw.size))
          have HSZ := Lib.hid HBB.out.bw.size
          clear b6
          go_wp2
          go_returns
          refine ⟨v, k6, rfl, HBW.out, Lib.hid ?_⟩
          rw [HGd.out]
          rcases HV.out with ⟨z1, z2, z3⟩ | ⟨z1, z2, z3⟩
          · exact .inl ⟨(fit_moved _ _).2 z1, z2, by rw [moved_length, HLM.out]; exact own_base z3 HSZ.out⟩
          · exact .inr ⟨fun h => by obtain ⟨s, hs, hn⟩ := z1; exact hn ((fit_moved _ _).1 h s hs), z2, z3⟩
        · have HML := Lib.hid (fun W => mul_over P tn W p1 p2 d0 d1 (by omega))
          have HNF : Hid (¬ Fit G) := Lib.hid (by rw [HGd.out]; exact far_out HGO.out HNE.out (by omega))
          clear hv
          go_wp2_with fail
          (with_reducible refine (HML.out _).mono ?_)
          rintro e w5 ⟨rfl, rfl⟩
          go_wp2
          go_returns
          exact ⟨_, _, rfl, HBB.out.bw, Lib.hid (.inr ⟨HNF.out, rfl, rfl⟩)⟩
  · have HX : Hid (∃ h : n < os.length, os[n].1 = i) := Lib.hid (HFd.out.1 rfl)
    have hnl : n < os.length := HX.out.1
    have nlt : n < on := by rw [← LO.out]; exact hnl
    have HGe : Hid (G = (os[n]'hnl).2) := Lib.hid (by
      obtain ⟨_, h⟩ := HX.out
      rw [← HG.out]; unfold gr; rw [exc_at HK.out.odd.inc hnl h])
    obtain ⟨g, p, rfl, hc⟩ := (show OdAt w2 oo on oc os from HBB.out.at_.odd).here (by omega)
    obtain ⟨d1, ⟨o, m, d, d2, d3⟩, d4, d5⟩ := hc n hnl
    have HCL := Lib.hid (clone_any o m d (os[n]'hnl).2 (by rw [← d3.len]; exact HK.out.lenO _ (List.getElem_mem hnl)) w2 d3)
    have HFT : Hid (Fit (os[n]'hnl).2) := Lib.hid (fit_good (HK.out.odd.good _ (List.getElem_mem hnl)).1)
    have HLM := Lib.hid d3.len
    rw [← HGe.out] at HCL HFT HLM
    clear d3 d1 d4 d5 hc HGe HX
    clear hnl
    have k0 : (0 : Int) ≤ (n : Int) := by omega
    have k1 : (n : Int) < (on : Int) := by omega
    go_wp2_with fail
    (with_reducible refine HCL.out.mono ?_)
    rintro e w3 ⟨v, rfl, z, b3⟩
    have HZ := Lib.hid z
    have HSZ := Lib.hid HBB.out.bw.size
    have HBW := Lib.hid (HBB.out.bw.trans (b3.mono HBB.out.bw.size))
    clear z b3
    go_wp2
    go_returns
    exact ⟨v, 0, rfl, HBW.out, Lib.hid (.inl ⟨HFT.out, rfl, by rw [HLM.out]; exact own_base HZ.out HSZ.out⟩)⟩
end Go.Proofs.YtacpcokmgahjaaaDoor
