/- visit: going through the parts of an expression, however deep. -/
import Derived.Test.YtimjendkpjojoaaDoorE1
namespace Go.Proofs.YtimjendkpjojoaaDoor
set_option linter.unusedVariables false
set_option linter.unusedSimpArgs false
open Go.ChangeShapes Go.WideShapes Go.ChangeAt Go.RowKit
/-- What a visitor's call does. -/
def StepOk {σ : Type} (step : σ → Pt → Int → σ × Bool) (I : σ → World → Prop) (K : FuncId) (caps : Array Value) (w0 : World) (m : σ → Nat) (LIM : Nat) : Prop :=
  ∀ (s : σ) (W : World) (p : Pt) (an : Option Addr) (nn nc : Nat) (aa : Option Addr) (ac : Nat) (d : Int), HdAt w0 p an nn nc aa ac → -9223372036854775808 ≤ d → d ≤ 9223372036854775807 → I s W → m s < LIM → Calls Tryd.prog K (#[pv p an nn nc aa ac, .int .i64 d] ++ caps) W fun e W' => e = .returned (.bool (step s p d).2) ∧ Hid (I (step s p d).1 W') ∧ Hid (Kp W W')
/-- The depths as they are counted. -/
def wl (l : List (Pt × Int)) : List (Pt × Int) := l.map (fun x => (x.1, wrap64 x.2))
theorem wl_app (a b : List (Pt × Int)) : wl (a ++ b) = wl a ++ wl b := List.map_append
theorem wl_len (a : List (Pt × Int)) : (wl a).length = a.length := List.length_map _
theorem wrap_bd (d : Int) : -9223372036854775808 ≤ wrap64 d ∧ wrap64 d ≤ 9223372036854775807 := by unfold wrap64; omega
theorem wrap_next (d : Int) : wrap64 (wrap64 d + 1) = wrap64 (d + 1) := by unfold wrap64; omega
/-- The two boxes of visit. -/
def Vis (K : FuncId) (caps : Array Value) (wb kb : Nat) (W : World) : Prop := W.heap[wb]? = some (.cells #[.func (.func K) #[] caps] 65 (0, 0)) ∧ W.heap[kb]? = some (.cells #[.func (.func 47) #[] #[.pointer (some ⟨wb, 0, none⟩), .pointer (some ⟨kb, 0, none⟩)]] 65 (0, 0))
theorem Vis.keep {K : FuncId} {caps : Array Value} {wb kb : Nat} {W W' : World} (h : Vis K caps wb kb W) (k : Kp W W') : Vis K caps wb kb W' := ⟨k.blk wb _ 65 (.inr rfl) h.1, k.blk kb _ 65 (.inr rfl) h.2⟩
set_option maxRecDepth 8000 in
set_option maxHeartbeats 2000000 in
theorem walk_any {σ : Type} (step : σ → Pt → Int → σ × Bool) (I : σ → World → Prop) (K : FuncId) (caps : Array Value) (w0 : World) (wb kb : Nat) (hB : ∀ s W, I s W → Below w0.heap.size w0 W) (hK : ∀ s W W', I s W → Below W.heap.size W W' → I s W') (m : σ → Nat) (LIM : Nat) (hm : ∀ s p d, m (step s p d).1 ≤ m s + 1) (hS : StepOk step I K caps w0 m LIM) (hE : ∀ (args : Array Value) (w : World), (callFunc K args).run Tryd.prog w = .ok (.enter K args) w) :
    ∀ (n : Nat) (v : Value) (F : Tour), ExAt w0 n v F → ∀ (d : Int), ∀ (s : σ) (W : World), m s + (F d).length ≤ LIM → I s W → Vis K caps wb kb W → Calls Tryd.prog 47 #[v, .int .i64 (wrap64 d), .pointer (some ⟨wb, 0, none⟩), .pointer (some ⟨kb, 0, none⟩)] W fun e W' => e = .returned (.bool (run step s (wl (F d))).2) ∧ Hid (I (run step s (wl (F d))).1 W') ∧ Hid (Kp W W')
  | 0, _, _, h => h.elim
  | n + 1, v, F, h => by
    have IH := Lib.hid (fun v F h => walk_any step I K caps w0 wb kb hB hK m LIM hm hS hE n v F h)
    intro d s W hL0 hI hV
    obtain ⟨p, an, nn, nc, aa, ac, Fs, rfl, hh, hl, rfl, hc⟩ := h
    have HS := Lib.hid (hS s)
    have HB := Lib.hid hB
    have HK := Lib.hid hK
    have HC := Lib.hid hc
    have HL0 : Hid (m s + 1 + (flat Fs (d + 1)).length ≤ LIM) := Lib.hid (by simp only [List.length_cons] at hL0; omega)
    have HM := Lib.hid hm
    clear hL0
    have HH := Lib.hid hh
    have HL := Lib.hid hl
    have HI := Lib.hid hI
    have HV := Lib.hid hV
    have HSS := Lib.hid hS
    clear hS hB hK hc hl hh hI hV hm
    obtain ⟨dw, hdw⟩ : ∃ x, wrap64 d = x := ⟨_, rfl⟩
    obtain ⟨dn, hdn⟩ : ∃ x, wrap64 (d + 1) = x := ⟨_, rfl⟩
    have d1 : -9223372036854775808 ≤ dw := by rw [← hdw]; exact (wrap_bd d).1
    have d2 : dw ≤ 9223372036854775807 := by rw [← hdw]; exact (wrap_bd d).2
    have HDN : Hid (wrap64 (dw + 1) = dn) := Lib.hid (by rw [← hdw, wrap_next, hdn])
    have HDE := Lib.hid hdn
    obtain ⟨bx, hbx⟩ : ∃ z, W.heap.size = z := ⟨_, rfl⟩
    obtain ⟨w1, hw1⟩ : ∃ z, W.alloc (.cells #[.int .u8 p.op, .string p.nm, .slice an nn nc, .slice aa p.k ac] 25) = z := ⟨_, rfl⟩
    have ka : Below W.heap.size W w1 := by rw [← hw1]; exact (Below.refl _ W).alloc (Nat.le_refl _) _
    have HX : Hid (w1.heap[bx]? = some (.cells #[.int .u8 p.op, .string p.nm, .slice an nn nc, .slice aa p.k ac] 25 (0, 0))) := Lib.hid (by rw [← hw1, ← hbx]; exact al_new W _)
    have HV := Lib.hid (HV.out.keep (Kp.of_below ka))
    have HI := Lib.hid (HK.out _ _ _ HI.out ka)
    have HKA := Lib.hid (Kp.of_below ka)
    clear ka
    unfold pv
    obtain ⟨R, hR⟩ : ∃ R, run step s (wl ((fun d => (p, d) :: flat Fs (d + 1)) d)) = R := ⟨_, rfl⟩
    rw [hR]
    have HRR : Hid (run step s ((p, dw) :: wl (flat Fs (d + 1))) = R) := Lib.hid (by rw [← hdw]; exact hR)
    rw [hdw]
    clear hR hdw hdn
    have e0 := cell_blk HX.out 0
    have e1 := cell_blk HX.out 1
    have e2 := cell_blk HX.out 2
    have e3 := cell_blk HX.out 3
    have e4 := cell_blk HV.out.1 0
    go_enter Tryd.func47, Tryd.ntmps47
    go_wp2_with fail
    have HCALL : Hid (Calls Tryd.prog K (#[.agg #[.int .u8 p.op, .string p.nm, .slice an nn nc, .slice aa p.k ac], .int .i64 dw] ++ caps) w1 fun e W' => e = .returned (.bool (step s p dw).2) ∧ Hid (I (step s p dw).1 W') ∧ Hid (Kp w1 W')) := Lib.hid (HS.out w1 p an nn nc aa ac dw HH.out d1 d2 HI.out (by have := HL0.out; omega))
    obtain ⟨s1, b1, hsb⟩ : ∃ s1 b1, step s p dw = (s1, b1) := ⟨_, _, rfl⟩
    have HL1 : Hid (m s1 + (flat Fs (d + 1)).length ≤ LIM) := Lib.hid (by have := HM.out s p dw; rw [hsb] at this; have := HL0.out; simp only [] at *; omega)
    rw [hsb] at HCALL
    have HSB := Lib.hid hsb
    clear hsb
    (with_reducible refine HCALL.out.mono ?_)
    rintro e w2 ⟨rfl, HI2, HK2⟩
    have HX := Lib.hid (HK2.out.blk bx _ 25 (.inl rfl) HX.out)
    have HV := Lib.hid (HV.out.keep HK2.out)
    have HKA := Lib.hid (HKA.out.trans HK2.out)
    clear e0 e1 e2 e3 e4 HI HK2 HCALL HS
    cases b1
    · have HF : Hid (run step s ((p, dw) :: wl (flat Fs (d + 1))) = (s1, false)) := Lib.hid (by rw [run_f (x := (p, dw)) (by rw [HSB.out]), HSB.out])
      obtain rfl : R = (s1, false) := HRR.out.symm.trans HF.out
      clear HF HRR
      go_wp2
      go_returns
      exact ⟨rfl, HI2, HKA⟩
    · have HF : Hid (run step s ((p, dw) :: wl (flat Fs (d + 1))) = run step s1 (wl (flat Fs (d + 1)))) := Lib.hid (by rw [run_t (x := (p, dw)) (by rw [HSB.out]), HSB.out])
      have HRR := Lib.hid (HF.out.symm.trans HRR.out)
      clear HF HSB
      have e3 := cell_blk HX.out 3
      have k0 : (0 : Int) ≤ (p.k : Int) := by omega
      have k1 : (p.k : Int) ≤ 9223372036854775807 := by have := HH.out.le; have := HH.out.top; omega
      go_upto_region 4 with fail
      clear e3
      go_loopw [8, 17] (fun s8 ii wr => ∃ (j : Nat) (s2 : σ), j ≤ p.k ∧ ii = .int .i64 j ∧ Hid (run step s1 (wl (flat (Fs.take j) (d + 1))) = (s2, true)) ∧ Hid (I s2 wr) ∧ Hid (Kp W wr) ∧ Hid (Vis K caps wb kb wr)) (fun s8 ii _ => p.k - (intOf ii).toNat)
      case atStart => exact ⟨0, s1, Nat.zero_le _, rfl, Lib.hid rfl, HI2, HKA, HV⟩
      case round =>
        clear HI2 HKA HV HX
        obtain ⟨j, s2, hj, rfl, HR, HI2, HKA, HV⟩ := hrel
        have i0 : (0 : Int) ≤ (j : Int) := by omega
        by_cases jlt : j < p.k
        · have i1 : (j : Int) < p.k := by omega
          obtain ⟨b, q, rfl, hx⟩ := HC.out (by omega)
          obtain ⟨x0, x1, x2, x3, c0, c1, c2, c3, hr⟩ := hx j (by rw [HL.out]; exact jlt)
          obtain ⟨G, hG⟩ : ∃ G : Tour, Fs[j]'(by rw [HL.out]; exact jlt) = G := ⟨_, rfl⟩
          rw [hG] at hr
          obtain ⟨p2, an2, nn2, nc2, aa2, ac2, ex, hh2⟩ := hr.head
          cases ex
          have HE := Lib.hid hr
          have KB := HB.out _ _ HI2.out
          have c0 := cell_keep c0 KB
          have c1 := cell_keep c1 KB
          have c2 := cell_keep c2 KB
          have c3 := cell_keep c3 KB
          obtain ⟨by_, hby⟩ : ∃ z, wr.heap.size = z := ⟨_, rfl⟩
          obtain ⟨wa, hwa⟩ : ∃ z, wr.alloc (.cells #[.int .u8 p2.op, .string p2.nm, .slice an2 nn2 nc2, .slice aa2 p2.k ac2] 25) = z := ⟨_, rfl⟩
          have KA : Below wr.heap.size wr wa := by rw [← hwa]; exact (Below.refl _ wr).alloc (Nat.le_refl _) _
          have HY : Hid (wa.heap[by_]? = some (.cells #[.int .u8 p2.op, .string p2.nm, .slice an2 nn2 nc2, .slice aa2 p2.k ac2] 25 (0, 0))) := Lib.hid (by rw [← hwa, ← hby]; exact al_new wr _)
          have HV := Lib.hid (HV.out.keep (Kp.of_below KA))
          have HKA := Lib.hid (HKA.out.trans (Kp.of_below KA))
          have HI2 := Lib.hid (HK.out _ _ _ HI2.out KA)
          have HTK : Hid (flat (Fs.take (j + 1)) (d + 1) = flat (Fs.take j) (d + 1) ++ G (d + 1)) := Lib.hid (by rw [List.take_succ_eq_append_getElem (by rw [HL.out]; exact jlt), flat_snoc, hG])
          have HL2 : m s2 + (G (d + 1)).length ≤ LIM := by
            have a1 := run_m HM.out (wl (flat (Fs.take j) (d + 1))) s1
            rw [HR.out, wl_len] at a1
            have a2 := congrArg List.length HTK.out
            have a3 : (flat Fs (d + 1)).length = (flat (Fs.take (j + 1)) (d + 1)).length + (flat (Fs.drop (j + 1)) (d + 1)).length := by rw [← List.length_append, ← flat_app, List.take_append_drop]
            have a4 := HL1.out
            rw [List.length_append] at a2
            simp only [] at a1
            omega
          have HIH : Hid (Calls Tryd.prog 47 #[.agg #[.int .u8 p2.op, .string p2.nm, .slice an2 nn2 nc2, .slice aa2 p2.k ac2], .int .i64 dn, .pointer (some ⟨wb, 0, none⟩), .pointer (some ⟨kb, 0, none⟩)] wa fun e W' => e = .returned (.bool (run step s2 (wl (G (d + 1)))).2) ∧ Hid (I (run step s2 (wl (G (d + 1)))).1 W') ∧ Hid (Kp wa W')) := Lib.hid (by have := IH.out _ _ HE.out (d + 1) s2 wa HL2 HI2.out HV.out; rwa [HDE.out] at this)
          obtain ⟨s3, b3, hsb⟩ : ∃ s3 b3, run step s2 (wl (G (d + 1))) = (s3, b3) := ⟨_, _, rfl⟩
          rw [hsb] at HIH
          have HSB := Lib.hid hsb
          have y0 := cell_blk HY.out 0
          have y1 := cell_blk HY.out 1
          have y2 := cell_blk HY.out 2
          have y3 := cell_blk HY.out 3
          have z0 := cell_blk HV.out.2 0
          have hdn2 := HDN.out
          have hdn3 : IntKind.i64.wrap (dw + 1) = dn := by rw [← HDN.out]; unfold wrap64; simp [IntKind.wrap, IntKind.bits, IntKind.signed]; omega
          clear hr hx KB KA hsb hh2 hG HL2
          go_upto_region 6 with fail
          clear hwa hby
          go_wp2_with fail
          (with_reducible refine HIH.out.mono ?_)
          rintro e w5 ⟨rfl, HI3, HK3⟩
          have HKA := Lib.hid (HKA.out.trans HK3.out)
          have HV := Lib.hid (HV.out.keep HK3.out)
          clear HI2 HK3 HIH y0 y1 y2 y3 z0 c0 c1 c2 c3
          cases b3
          · obtain rfl : R = (s3, false) := HRR.out.symm.trans (by
              rw [show flat Fs (d + 1) = flat (Fs.take (j + 1)) (d + 1) ++ flat (Fs.drop (j + 1)) (d + 1) by rw [← flat_app, List.take_append_drop], HTK.out, wl_app, wl_app]
              have e1 : run step s1 (wl (flat (Fs.take j) (d + 1)) ++ wl (G (d + 1))) = (s3, false) := by
                rw [run_on (by rw [HR.out]), HR.out]; exact HSB.out
              rw [run_off (by rw [e1]), e1])
            clear HRR HTK HSB HR
            go_wp2
            go_returns
            exact ⟨rfl, HI3, HKA⟩
          · have HR2 : Hid (run step s1 (wl (flat (Fs.take (j + 1)) (d + 1))) = (s3, true)) := Lib.hid (by
              rw [HTK.out, wl_app, run_on (by rw [HR.out]), HR.out]; exact HSB.out)
            clear HTK HSB HR
            go_wp2
            go_roundw
            case rel => exact ⟨j + 1, s3, by omega, by go_num, HR2, HI3, HKA, HV⟩
            case measure => simp [intOf]; omega
        · have jk : j = p.k := by omega
          obtain rfl : R = (s2, true) := HRR.out.symm.trans (by
            have := HR.out
            rwa [List.take_of_length_le (by rw [HL.out]; omega)] at this)
          have i1 : (p.k : Int) ≤ (j : Int) := by omega
          clear HRR HR
          go_wp2
          go_returns
          exact ⟨rfl, HI2, HKA⟩
end Go.Proofs.YtimjendkpjojoaaDoor
