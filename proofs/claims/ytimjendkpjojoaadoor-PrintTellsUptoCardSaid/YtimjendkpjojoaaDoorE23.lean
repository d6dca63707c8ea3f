/- The document's own answer for layer 9: parts, Right. -/
import Derived.Test.YtimjendkpjojoaaDoorE22
namespace Go.Proofs.YtimjendkpjojoaaDoor
set_option linter.unusedVariables false
set_option linter.unusedSimpArgs false
open Go.ChangeShapes Go.WideShapes Go.ChangeAt Go.RowKit
def AllFit (l : List (Pt × Int)) : Prop := ∀ p ∈ l.map (fun x => x.1), FitP p
theorem allfit_app (a b : List (Pt × Int)) : AllFit (a ++ b) ↔ AllFit a ∧ AllFit b := by
  unfold AllFit
  rw [List.map_append]
  constructor
  · intro h; exact ⟨fun p hp => h p (List.mem_append_left _ hp), fun p hp => h p (List.mem_append_right _ hp)⟩
  · rintro ⟨h1, h2⟩ p hp
    rcases List.mem_append.1 hp with h | h
    · exact h1 p h
    · exact h2 p h
theorem allfit_at {w : World} {n : Nat} {v : Value} {F : Tour} (h : ExAt w n v F) (d e : Int) : AllFit (F d) ↔ AllFit (F e) := by
  unfold AllFit; rw [ex_parts h d e]
set_option maxRecDepth 8000 in
set_option maxHeartbeats 4000000 in
theorem rparts_any : ∀ (n : Nat) (v : Value) (F : Tour) (w : World), ExAt w n v F → ∀ (r : Bool), (r = true ↔ AllFit (F 1)) → Calls Tryd.prog 37 #[v] w fun e w' => e = .returned (.bool r) ∧ Below w.heap.size w w'
  | 0, _, _, _, h, _, _ => h.elim
  | n + 1, v, F, w, h, r, hr0 => by
    have IH := Lib.hid (fun v F w h r hr => rparts_any n v F w h r hr)
    obtain ⟨p, an, nn, nc, aa, ac, Fs, rfl, hh, hk, rfl, hc⟩ := h
    unfold pv
    have HC := Lib.hid hc
    have HK := Lib.hid hk
    have HR : Hid (r = true ↔ FitP p ∧ AllFit (flat Fs (1 + 1))) := Lib.hid (hr0.trans (by
      constructor
      · intro h; exact ⟨h p (by simp), fun q hq => h q (List.mem_cons_of_mem _ hq)⟩
      · rintro ⟨h1, h2⟩ q hq
        rcases List.mem_cons.1 hq with e | h
        · rw [e]; exact h1
        · exact h2 q h))
    have k0 : (0 : Int) ≤ (p.k : Int) := by omega
    have k1 : (p.k : Int) ≤ 9223372036854775807 := by have := hh.le; have := hh.top; omega
    have hnl := hh.nums.len
    have n0 : (0 : Int) ≤ (nn : Int) := by omega
    have n1 : (nn : Int) ≤ 9223372036854775807 := by have := hh.nums.le; have := hh.nums.top; omega
    have HO := Lib.hid hh.o1
    have HNL := Lib.hid hnl
    obtain ⟨b, hb⟩ : ∃ z, w.heap.size = z := ⟨_, rfl⟩
    obtain ⟨w1, hw1⟩ : ∃ z, w.alloc (.cells #[.int .u8 p.op, .string p.nm, .slice an nn nc, .slice aa p.k ac] 25) = z := ⟨_, rfl⟩
    have HX : Hid (Bx1 w w1 b #[.int .u8 p.op, .string p.nm, .slice an nn nc, .slice aa p.k ac]) := Lib.hid ⟨by rw [← hw1]; exact (Below.refl _ w).alloc (Nat.le_refl _) _, by rw [← hw1, ← hb, al_new]⟩
    clear hc hk hr0 hh hnl
    have e0 := cell_blk HX.out.box 0
    have e1 := cell_blk HX.out.box 1
    have e2 := cell_blk HX.out.box 2
    have e3 := cell_blk HX.out.box 3
    by_cases o12 : 12 < p.op
    · have HKD := Lib.hid (kind_out p.op w1 o12)
      have t0 : ((-1 : Int) != (nn : Int)) = true := by first | (simp; done) | (simp; omega)
      go_enter Tryd.func37, Tryd.ntmps37
      go_wp2_with fail
      (with_reducible refine HKD.out.mono ?_)
      rintro e w2 ⟨rfl, rfl⟩
      obtain rfl : r = false := by
        cases r
        · rfl
        · exfalso
          have a := (HR.out.1 rfl).1
          have := a.op; omega
      go_wp2
      go_returns
      exact ⟨rfl, HX.out.bw⟩
    · obtain ⟨i, hi⟩ := Int.eq_ofNat_of_zero_le HO.out
      have i13 : i < 13 := by omega
      have i0 : (0 : Int) ≤ (i : Int) := by omega
      have i1 : (i : Int) ≤ 12 := by omega
      have HKD := Lib.hid (kind_in i w1 i13)
      have bn := nN_bd i i13
      have ba := aN_bd i i13
      have HFX : Hid (FitP p ↔ ((nn : Int) = nN i ∧ (p.k : Int) = aN i ∧ if i = 0 then RName p.nm else p.nm = ⟨#[]⟩)) := Lib.hid (by
        constructor
        · intro h
          refine ⟨?_, ?_, ?_⟩
          · have := h.nums; rw [hi, Int.toNat_natCast, HNL.out] at this; exact this
          · have := h.args; rw [hi, Int.toNat_natCast] at this; exact this
          · have := h.name; rw [hi] at this
            by_cases z : i = 0
            · rw [if_pos z]; rw [if_pos (by omega)] at this; exact this
            · rw [if_neg z]; rw [if_neg (by omega)] at this; exact this
        · intro h
          refine ⟨by omega, by rw [hi, Int.toNat_natCast, HNL.out]; exact h.1, by rw [hi, Int.toNat_natCast]; exact h.2.1, ?_⟩
          have := h.2.2
          rw [hi]
          by_cases z : i = 0
          · rw [if_pos z] at this; rw [if_pos (by omega)]; exact this
          · rw [if_neg z] at this; rw [if_neg (by omega)]; exact this)
      obtain ⟨x, hx⟩ : ∃ x, nN i = x := ⟨_, rfl⟩
      obtain ⟨y, hy⟩ : ∃ x, aN i = x := ⟨_, rfl⟩
      rw [hx, hy] at HKD HFX
      rw [hx] at bn
      rw [hy] at ba
      have bn0 := bn.1
      have bn1 := bn.2
      have ba0 := ba.1
      have ba1 := ba.2.1
      have hpo : p.op = (i : Int) := hi
      rw [hpo] at e0 HX hw1 ⊢
      clear bn ba hx hy hi o12
      go_enter Tryd.func37, Tryd.ntmps37
      go_wp2_with fail
      (with_reducible refine HKD.out.mono ?_)
      rintro e w2 ⟨rfl, rfl⟩
      clear HKD hw1 hb
      by_cases c1 : x = (nn : Int)
      · have t1 : (x != (nn : Int)) = false := by simp [c1]
        by_cases c2 : y = (p.k : Int)
        · have t2 : (y != (p.k : Int)) = false := by simp [c2]
          by_cases iz : i = 0
          · subst iz
            obtain ⟨rn, hrn⟩ : ∃ rn : Bool, rn = true ↔ RName p.nm := by classical exact ⟨decide _, decide_eq_true_iff⟩
            have HNM := Lib.hid (fun W => rnm_name p.nm W rn hrn)
            have HRN := Lib.hid hrn
            clear hrn
            go_wp2_with fail
            (with_reducible refine (HNM.out _).mono ?_)
            rintro e w2 ⟨rfl, rfl⟩
            cases rn
            · skip
              obtain rfl : r = false := by
                cases r
                · rfl
                · exfalso
                  have a := (HR.out.1 rfl).1
                  have := (HFX.out.1 a).2.2; rw [if_pos trivial] at this; have := HRN.out.2 this; cases this
              go_wp2
              go_returns
              exact ⟨rfl, HX.out.bw⟩
            · have HFP : Hid (FitP p) := Lib.hid (HFX.out.2 ⟨c1.symm, c2.symm, by rw [if_pos trivial]; exact HRN.out.1 rfl⟩)
              go_upto_region 5 with fail
              clear e0 e1 e2 e3
              go_loopw [5] (fun ii wr => ∃ (j : Nat), j ≤ p.k ∧ ii = .int .i64 j ∧ Hid (AllFit (flat (Fs.take j) (1 + 1))) ∧ Hid (Bx1 w wr b #[.int .u8 ((0 : Nat) : Int), .string p.nm, .slice an nn nc, .slice aa p.k ac])) (fun ii _ => p.k - (intOf ii).toNat)
              case atStart => exact ⟨0, Nat.zero_le _, rfl, Lib.hid (fun p hp => by simp [flat] at hp), HX⟩
              case round =>
                clear HX
                obtain ⟨j, hj, rfl, HCC, HX⟩ := hrel
                have j0 : (0 : Int) ≤ (j : Int) := by omega
                have e3 := cell_blk HX.out.box 3
                by_cases jlt : j < p.k
                · have j1 : (j : Int) < p.k := by omega
                  obtain ⟨q0, q, rfl, hx⟩ := HC.out (by omega)
                  obtain ⟨x0, x1, x2, x3, g0, g1, g2, g3, hr⟩ := hx j (by rw [HK.out]; exact jlt)
                  obtain ⟨p2, an2, nn2, nc2, aa2, ac2, ex, hh2⟩ := hr.head
                  cases ex
                  obtain ⟨G, hG⟩ : ∃ G : Tour, Fs[j]'(by rw [HK.out]; exact jlt) = G := ⟨_, rfl⟩
                  rw [hG] at hr
                  have g0 := cell_keep g0 HX.out.bw
                  have g1 := cell_keep g1 HX.out.bw
                  have g2 := cell_keep g2 HX.out.bw
                  have g3 := cell_keep g3 HX.out.bw
                  have HTK : Hid (flat (Fs.take (j + 1)) (1 + 1) = flat (Fs.take j) (1 + 1) ++ G (1 + 1)) := Lib.hid (by rw [flat_take Fs (1 + 1) (by rw [HK.out]; exact jlt), hG])
                  obtain ⟨r2, hr2⟩ : ∃ r2 : Bool, r2 = true ↔ AllFit (G 1) := by classical exact ⟨decide _, decide_eq_true_iff⟩
                  have HIH := Lib.hid (IH.out _ G wr (hr.keep HX.out.bw) r2 hr2)
                  have HR2 := Lib.hid (hr2.trans (allfit_at hr 1 (1 + 1)))
                  have HSP : Hid (∃ Z, flat Fs (1 + 1) = flat (Fs.take (j + 1)) (1 + 1) ++ Z) := Lib.hid ⟨_, by rw [← flat_app, List.take_append_drop]⟩
                  clear hr hx hh2 hG hr2
                  go_wp2_with fail
                  (with_reducible refine HIH.out.mono ?_)
                  rintro e w5 ⟨rfl, q⟩
                  have HX := Lib.hid (HX.out.keep q)
                  clear q HIH g0 g1 g2 g3 e3
                  cases r2
                  · obtain rfl : r = false := by
                      cases r
                      · rfl
                      · exfalso
                        have a := (HR.out.1 rfl).2
                        obtain ⟨Z, hZ⟩ := HSP.out
                        rw [hZ, allfit_app, HTK.out, allfit_app] at a
                        have := HR2.out.2 a.1.2
                        cases this
                    go_wp2
                    go_returns
                    exact ⟨rfl, HX.out.bw⟩
                  · have HC2 : Hid (AllFit (flat (Fs.take (j + 1)) (1 + 1))) := Lib.hid (by rw [HTK.out, allfit_app]; exact ⟨HCC.out, HR2.out.1 rfl⟩)
                    go_wp2
                    go_roundw
                    case rel => exact ⟨j + 1, by omega, by go_num, HC2, HX⟩
                    case measure => simp [intOf]; omega
                · have j1 : (p.k : Int) ≤ (j : Int) := by omega
                  obtain rfl : r = true := HR.out.2 ⟨HFP.out, by
                    have a := HCC.out
                    rwa [List.take_of_length_le (by rw [HK.out]; omega)] at a⟩
                  go_wp2
                  go_returns
                  exact ⟨rfl, HX.out.bw⟩
          · have t3 : ((i : Int) == 0) = false := by simp; exact iz
            have t4 : ((i : Int) != 0) = true := by simp; exact iz
            by_cases ne : p.nm = ⟨#[]⟩
            · have t5 : p.nm.toList = [] := by rw [ne]; kernel_rfl
              have HFP : Hid (FitP p) := Lib.hid (HFX.out.2 ⟨c1.symm, c2.symm, by rw [if_neg iz]; exact ne⟩)
              go_upto_region 5 with fail
              clear e0 e1 e2 e3
              go_loopw [5] (fun ii wr => ∃ (j : Nat), j ≤ p.k ∧ ii = .int .i64 j ∧ Hid (AllFit (flat (Fs.take j) (1 + 1))) ∧ Hid (Bx1 w wr b #[.int .u8 (i : Int), .string p.nm, .slice an nn nc, .slice aa p.k ac])) (fun ii _ => p.k - (intOf ii).toNat)
              case atStart => exact ⟨0, Nat.zero_le _, rfl, Lib.hid (fun p hp => by simp [flat] at hp), HX⟩
              case round =>
                clear HX
                obtain ⟨j, hj, rfl, HCC, HX⟩ := hrel
                have j0 : (0 : Int) ≤ (j : Int) := by omega
                have e3 := cell_blk HX.out.box 3
                by_cases jlt : j < p.k
                · have j1 : (j : Int) < p.k := by omega
                  obtain ⟨q0, q, rfl, hx⟩ := HC.out (by omega)
                  obtain ⟨x0, x1, x2, x3, g0, g1, g2, g3, hr⟩ := hx j (by rw [HK.out]; exact jlt)
                  obtain ⟨p2, an2, nn2, nc2, aa2, ac2, ex, hh2⟩ := hr.head
                  cases ex
                  obtain ⟨G, hG⟩ : ∃ G : Tour, Fs[j]'(by rw [HK.out]; exact jlt) = G := ⟨_, rfl⟩
                  rw [hG] at hr
                  have g0 := cell_keep g0 HX.out.bw
                  have g1 := cell_keep g1 HX.out.bw
                  have g2 := cell_keep g2 HX.out.bw
                  have g3 := cell_keep g3 HX.out.bw
                  have HTK : Hid (flat (Fs.take (j + 1)) (1 + 1) = flat (Fs.take j) (1 + 1) ++ G (1 + 1)) := Lib.hid (by rw [flat_take Fs (1 + 1) (by rw [HK.out]; exact jlt), hG])
                  obtain ⟨r2, hr2⟩ : ∃ r2 : Bool, r2 = true ↔ AllFit (G 1) := by classical exact ⟨decide _, decide_eq_true_iff⟩
                  have HIH := Lib.hid (IH.out _ G wr (hr.keep HX.out.bw) r2 hr2)
                  have HR2 := Lib.hid (hr2.trans (allfit_at hr 1 (1 + 1)))
                  have HSP : Hid (∃ Z, flat Fs (1 + 1) = flat (Fs.take (j + 1)) (1 + 1) ++ Z) := Lib.hid ⟨_, by rw [← flat_app, List.take_append_drop]⟩
                  clear hr hx hh2 hG hr2
                  go_wp2_with fail
                  (with_reducible refine HIH.out.mono ?_)
                  rintro e w5 ⟨rfl, q⟩
                  have HX := Lib.hid (HX.out.keep q)
                  clear q HIH g0 g1 g2 g3 e3
                  cases r2
                  · obtain rfl : r = false := by
                      cases r
                      · rfl
                      · exfalso
                        have a := (HR.out.1 rfl).2
                        obtain ⟨Z, hZ⟩ := HSP.out
                        rw [hZ, allfit_app, HTK.out, allfit_app] at a
                        have := HR2.out.2 a.1.2
                        cases this
                    go_wp2
                    go_returns
                    exact ⟨rfl, HX.out.bw⟩
                  · have HC2 : Hid (AllFit (flat (Fs.take (j + 1)) (1 + 1))) := Lib.hid (by rw [HTK.out, allfit_app]; exact ⟨HCC.out, HR2.out.1 rfl⟩)
                    go_wp2
                    go_roundw
                    case rel => exact ⟨j + 1, by omega, by go_num, HC2, HX⟩
                    case measure => simp [intOf]; omega
                · have j1 : (p.k : Int) ≤ (j : Int) := by omega
                  obtain rfl : r = true := HR.out.2 ⟨HFP.out, by
                    have a := HCC.out
                    rwa [List.take_of_length_le (by rw [HK.out]; omega)] at a⟩
                  go_wp2
                  go_returns
                  exact ⟨rfl, HX.out.bw⟩
            · have t5 : p.nm.toList.isEmpty = false := by
                cases y : p.nm.toList.isEmpty
                · rfl
                · exact absurd ((nm_empty _).1 y) ne
              have t6 : ¬ p.nm.toList = [] := by intro e; rw [e] at t5; cases t5
              obtain rfl : r = false := by
                cases r
                · rfl
                · exfalso
                  have a := (HR.out.1 rfl).1
                  have := (HFX.out.1 a).2.2; rw [if_neg iz] at this; exact ne this
              go_wp2
              go_returns
              exact ⟨rfl, HX.out.bw⟩
        · have t2 : (y != (p.k : Int)) = true := by simp [c2]
          obtain rfl : r = false := by
            cases r
            · rfl
            · exfalso
              have a := (HR.out.1 rfl).1
              exact c2 (HFX.out.1 a).2.1.symm
          go_wp2
          go_returns
          exact ⟨rfl, HX.out.bw⟩
      · have t1 : (x != (nn : Int)) = true := by simp [c1]
        obtain rfl : r = false := by
          cases r
          · rfl
          · exfalso
            have a := (HR.out.1 rfl).1
            exact c1 (HFX.out.1 a).1.symm
        go_wp2
        go_returns
        exact ⟨rfl, HX.out.bw⟩
end Go.Proofs.YtimjendkpjojoaaDoor
