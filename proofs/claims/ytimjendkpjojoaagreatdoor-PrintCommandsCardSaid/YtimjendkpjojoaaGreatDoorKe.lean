/- V1, V2, V3 in one. -/
import Derived.Test.YtimjendkpjojoaaGreatDoorKd
import Derived.Shelf.Abstract
namespace Go.Proofs.YtimjendkpjojoaaGreatDoor
set_option linter.unusedVariables false
set_option linter.unusedSimpArgs false
open Go.ChangeShapes Go.WideShapes Go.ChangeAt Go.RowKit
/-- What a visitor's call does. -/
def StepOk {σ : Type} (step : σ → Pt → Int → σ × Bool) (I : σ → World → Prop) (K : FuncId) (caps : Array Value) (w0 : World) (m : σ → Nat) (LIM : Nat) : Prop :=
  ∀ (s : σ) (W : World) (p : Pt) (an : Option Addr) (nn nc : Nat) (aa : Option Addr) (ac : Nat) (d : Int), HdAt w0 p an nn nc aa ac → -9223372036854775808 ≤ d → d ≤ 9223372036854775807 → I s W → m s < LIM → Calls Tryz.prog K (#[pv p an nn nc aa ac, .int .i64 d] ++ caps) W fun e W' => e = .returned (.bool (step s p d).2) ∧ Hid (I (step s p d).1 W') ∧ Hid (Kp W W')
/-- The depths as they are counted. -/
def wl (l : List (Pt × Int)) : List (Pt × Int) := l.map (fun x => (x.1, wrap64 x.2))
theorem wl_app (a b : List (Pt × Int)) : wl (a ++ b) = wl a ++ wl b := List.map_append
theorem wl_len (a : List (Pt × Int)) : (wl a).length = a.length := List.length_map _
theorem wrap_bd (d : Int) : -9223372036854775808 ≤ wrap64 d ∧ wrap64 d ≤ 9223372036854775807 := by unfold wrap64; omega
theorem wrap_next (d : Int) : wrap64 (wrap64 d + 1) = wrap64 (d + 1) := by unfold wrap64; omega
/-- The two boxes of visit. -/
def Vis (K : FuncId) (caps : Array Value) (wb kb : Nat) (W : World) : Prop := W.heap[wb]? = some (.cells #[.func (.func K) #[] caps] 50 (0, 0)) ∧ W.heap[kb]? = some (.cells #[.func (.func 41) #[] #[.pointer (some ⟨wb, 0, none⟩), .pointer (some ⟨kb, 0, none⟩)]] 50 (0, 0))
theorem Vis.keep {K : FuncId} {caps : Array Value} {wb kb : Nat} {W W' : World} (h : Vis K caps wb kb W) (k : Kp W W') : Vis K caps wb kb W' := ⟨k.blk wb _ 50 (.inr rfl) h.1, k.blk kb _ 50 (.inr rfl) h.2⟩
set_option maxRecDepth 8000 in
set_option maxHeartbeats 2000000 in
theorem walk_any {σ : Type} (step : σ → Pt → Int → σ × Bool) (I : σ → World → Prop) (K : FuncId) (caps : Array Value) (w0 : World) (wb kb : Nat) (hB : ∀ s W, I s W → Below w0.heap.size w0 W) (hK : ∀ s W W', I s W → Below W.heap.size W W' → I s W') (m : σ → Nat) (LIM : Nat) (hm : ∀ s p d, m (step s p d).1 ≤ m s + 1) (hS : StepOk step I K caps w0 m LIM) (hE : ∀ (args : Array Value) (w : World), (callFunc K args).run Tryz.prog w = .ok (.enter K args) w) :
    ∀ (n : Nat) (v : Value) (F : Tour), ExAt w0 n v F → ∀ (d : Int), ∀ (s : σ) (W : World), m s + (F d).length ≤ LIM → I s W → Vis K caps wb kb W → Calls Tryz.prog 41 #[v, .int .i64 (wrap64 d), .pointer (some ⟨wb, 0, none⟩), .pointer (some ⟨kb, 0, none⟩)] W fun e W' => e = .returned (.bool (run step s (wl (F d))).2) ∧ Hid (I (run step s (wl (F d))).1 W') ∧ Hid (Kp W W')
  | 0, _, _, h => h.elim
  | n + 1, v, F, h => by
    have IH := Lib.hid (fun v F h => walk_any step I K caps w0 wb kb hB hK m LIM hm hS hE n v F h)
    intro d s W hL0 hI hV
    obtain ⟨p, an, nn, nc, aa, ac, Fs, rfl, hh, hl, rfl, hc⟩ := h
    have HS := Lib.hid (hS s)
    have HB := Lib.hid hB
    have HK := Lib.hid hK
    have HC := Lib.hid hc
    have HL0 : Hid (m s + 1 + (flat Fs (d + 1)).length ≤ LIM) := Lib.hid (by simp only [List.length_cons] at hL0; omega)
    have HM := Lib.hid hm
    clear hL0
    have HH := Lib.hid hh
    have HL := Lib.hid hl
    have HI := Lib.hid hI
    have HV := Lib.hid hV
    have HSS := Lib.hid hS
    clear hS hB hK hc hl hh hI hV hm
    obtain ⟨dw, hdw⟩ : ∃ x, wrap64 d = x := ⟨_, rfl⟩
    obtain ⟨dn, hdn⟩ : ∃ x, wrap64 (d + 1) = x := ⟨_, rfl⟩
    have d1 : -9223372036854775808 ≤ dw := by rw [← hdw]; exact (wrap_bd d).1
    have d2 : dw ≤ 9223372036854775807 := by rw [← hdw]; exact (wrap_bd d).2
    have HDN : Hid (wrap64 (dw + 1) = dn) := Lib.hid (by rw [← hdw, wrap_next, hdn])
    have HDE := Lib.hid hdn
    obtain ⟨bx, hbx⟩ : ∃ z, W.heap.size = z := ⟨_, rfl⟩
    obtain ⟨w1, hw1⟩ : ∃ z, W.alloc (.cells #[.int .u8 p.op, .string p.nm, .slice an nn nc, .slice aa p.k ac] 25) = z := ⟨_, rfl⟩
    have ka : Below W.heap.size W w1 := by rw [← hw1]; exact (Below.refl _ W).alloc (Nat.le_refl _) _
    have HX : Hid (w1.heap[bx]? = some (.cells #[.int .u8 p.op, .string p.nm, .slice an nn nc, .slice aa p.k ac] 25 (0, 0))) := Lib.hid (by rw [← hw1, ← hbx]; exact al_new W _)
    have HV := Lib.hid (HV.out.keep (Kp.of_below ka))
    have HI := Lib.hid (HK.out _ _ _ HI.out ka)
    have HKA := Lib.hid (Kp.of_below ka)
    clear ka
    unfold pv
    obtain ⟨R, hR⟩ : ∃ R, run step s (wl ((fun d => (p, d) :: flat Fs (d + 1)) d)) = R := ⟨_, rfl⟩
    rw [hR]
    have HRR : Hid (run step s ((p, dw) :: wl (flat Fs (d + 1))) = R) := Lib.hid (by rw [← hdw]; exact hR)
    rw [hdw]
    clear hR hdw hdn
    have e0 := cell_blk HX.out 0
    have e1 := cell_blk HX.out 1
    have e2 := cell_blk HX.out 2
    have e3 := cell_blk HX.out 3
    have e4 := cell_blk HV.out.1 0
    go_enter Tryz.func41, Tryz.ntmps41
    go_wp2_with fail
    have HCALL : Hid (Calls Tryz.prog K (#[.agg #[.int .u8 p.op, .string p.nm, .slice an nn nc, .slice aa p.k ac], .int .i64 dw] ++ caps) w1 fun e W' => e = .returned (.bool (step s p dw).2) ∧ Hid (I (step s p dw).1 W') ∧ Hid (Kp w1 W')) := Lib.hid (HS.out w1 p an nn nc aa ac dw HH.out d1 d2 HI.out (by have := HL0.out; omega))
    obtain ⟨s1, b1, hsb⟩ : ∃ s1 b1, step s p dw = (s1, b1) := ⟨_, _, rfl⟩
    have HL1 : Hid (m s1 + (flat Fs (d + 1)).length ≤ LIM) := Lib.hid (by have := HM.out s p dw; rw [hsb] at this; have := HL0.out; simp only [] at *; omega)
    rw [hsb] at HCALL
    have HSB := Lib.hid hsb
    clear hsb
    (with_reducible refine HCALL.out.mono ?_)
    rintro e w2 ⟨rfl, HI2, HK2⟩
    have HX := Lib.hid (HK2.out.blk bx _ 25 (.inl rfl) HX.out)
    have HV := Lib.hid (HV.out.keep HK2.out)
    have HKA := Lib.hid (HKA.out.trans HK2.out)
    clear e0 e1 e2 e3 e4 HI HK2 HCALL HS
    cases b1
    · have HF : Hid (run step s ((p, dw) :: wl (flat Fs (d + 1))) = (s1, false)) := Lib.hid (by rw [run_f (x := (p, dw)) (by rw [HSB.out]), HSB.out])
      obtain rfl : R = (s1, false) := HRR.out.symm.trans HF.out
      clear HF HRR
      go_wp2
      go_returns
      exact ⟨rfl, HI2, HKA⟩
    · have HF : Hid (run step s ((p, dw) :: wl (flat Fs (d + 1))) = run step s1 (wl (flat Fs (d + 1)))) := Lib.hid (by rw [run_t (x := (p, dw)) (by rw [HSB.out]), HSB.out])
      have HRR := Lib.hid (HF.out.symm.trans HRR.out)
      clear HF HSB
      have e3 := cell_blk HX.out 3
      have k0 : (0 : Int) ≤ (p.k : Int) := by omega
      have k1 : (p.k : Int) ≤ 9223372036854775807 := by have := HH.out.le; have := HH.out.top; omega
      go_upto_region 4 with fail
      clear e3
      go_loopw [8, 17] (fun s8 ii wr => ∃ (j : Nat) (s2 : σ), j ≤ p.k ∧ ii = .int .i64 j ∧ Hid (run step s1 (wl (flat (Fs.take j) (d + 1))) = (s2, true)) ∧ Hid (I s2 wr) ∧ Hid (Kp W wr) ∧ Hid (Vis K caps wb kb wr)) (fun s8 ii _ => p.k - (intOf ii).toNat)
      case atStart => exact ⟨0, s1, Nat.zero_le _, rfl, Lib.hid rfl, HI2, HKA, HV⟩
      case round =>
        clear HI2 HKA HV HX
        obtain ⟨j, s2, hj, rfl, HR, HI2, HKA, HV⟩ := hrel
        have i0 : (0 : Int) ≤ (j : Int) := by omega
        by_cases jlt : j < p.k
        · have i1 : (j : Int) < p.k := by omega
          obtain ⟨b, q, rfl, hx⟩ := HC.out (by omega)
          obtain ⟨x0, x1, x2, x3, c0, c1, c2, c3, hr⟩ := hx j (by rw [HL.out]; exact jlt)
          obtain ⟨G, hG⟩ : ∃ G : Tour, Fs[j]'(by rw [HL.out]; exact jlt) = G := ⟨_, rfl⟩
          rw [hG] at hr
          obtain ⟨p2, an2, nn2, nc2, aa2, ac2, ex, hh2⟩ := hr.head
          cases ex
          have HE := Lib.hid hr
          have KB := HB.out _ _ HI2.out
          have c0 := cell_keep c0 KB
          have c1 := cell_keep c1 KB
          have c2 := cell_keep c2 KB
          have c3 := cell_keep c3 KB
          obtain ⟨by_, hby⟩ : ∃ z, wr.heap.size = z := ⟨_, rfl⟩
          obtain ⟨wa, hwa⟩ : ∃ z, wr.alloc (.cells #[.int .u8 p2.op, .string p2.nm, .slice an2 nn2 nc2, .slice aa2 p2.k ac2] 25) = z := ⟨_, rfl⟩
          have KA : Below wr.heap.size wr wa := by rw [← hwa]; exact (Below.refl _ wr).alloc (Nat.le_refl _) _
          have HY : Hid (wa.heap[by_]? = some (.cells #[.int .u8 p2.op, .string p2.nm, .slice an2 nn2 nc2, .slice aa2 p2.k ac2] 25 (0, 0))) := Lib.hid (by rw [← hwa, ← hby]; exact al_new wr _)
          have HV := Lib.hid (HV.out.keep (Kp.of_below KA))
          have HKA := Lib.hid (HKA.out.trans (Kp.of_below KA))
          have HI2 := Lib.hid (HK.out _ _ _ HI2.out KA)
          have HTK : Hid (flat (Fs.take (j + 1)) (d + 1) = flat (Fs.take j) (d + 1) ++ G (d + 1)) := Lib.hid (by rw [List.take_succ_eq_append_getElem (by rw [HL.out]; exact jlt), flat_snoc, hG])
          have HL2 : m s2 + (G (d + 1)).length ≤ LIM := by
            have a1 := run_m HM.out (wl (flat (Fs.take j) (d + 1))) s1
            rw [HR.out, wl_len] at a1
            have a2 := congrArg List.length HTK.out
            have a3 : (flat Fs (d + 1)).length = (flat (Fs.take (j + 1)) (d + 1)).length + (flat (Fs.drop (j + 1)) (d + 1)).length := by rw [← List.length_append, ← flat_app, List.take_append_drop]
            have a4 := HL1.out
            rw [List.length_append] at a2
            simp only [] at a1
            omega
          have HIH : Hid (Calls Tryz.prog 41 #[.agg #[.int .u8 p2.op, .string p2.nm, .slice an2 nn2 nc2, .slice aa2 p2.k ac2], .int .i64 dn, .pointer (some ⟨wb, 0, none⟩), .pointer (some ⟨kb, 0, none⟩)] wa fun e W' => e = .returned (.bool (run step s2 (wl (G (d + 1)))).2) ∧ Hid (I (run step s2 (wl (G (d + 1)))).1 W') ∧ Hid (Kp wa W')) := Lib.hid (by have := IH.out _ _ HE.out (d + 1) s2 wa HL2 HI2.out HV.out; rwa [HDE.out] at this)
          obtain ⟨s3, b3, hsb⟩ : ∃ s3 b3, run step s2 (wl (G (d + 1))) = (s3, b3) := ⟨_, _, rfl⟩
          rw [hsb] at HIH
          have HSB := Lib.hid hsb
          have y0 := cell_blk HY.out 0
          have y1 := cell_blk HY.out 1
          have y2 := cell_blk HY.out 2
          have y3 := cell_blk HY.out 3
          have z0 := cell_blk HV.out.2 0
          have hdn2 := HDN.out
          have hdn3 : IntKind.i64.wrap (dw + 1) = dn := by rw [← HDN.out]; unfold wrap64; simp [IntKind.wrap, IntKind.bits, IntKind.signed]; omega
          clear hr hx KB KA hsb hh2 hG HL2
          go_upto_region 6 with fail
          clear hwa hby
          go_wp2_with fail
          (with_reducible refine HIH.out.mono ?_)
          rintro e w5 ⟨rfl, HI3, HK3⟩
          have HKA := Lib.hid (HKA.out.trans HK3.out)
          have HV := Lib.hid (HV.out.keep HK3.out)
          clear HI2 HK3 HIH y0 y1 y2 y3 z0 c0 c1 c2 c3
          cases b3
          · obtain rfl : R = (s3, false) := HRR.out.symm.trans (by
              rw [show flat Fs (d + 1) = flat (Fs.take (j + 1)) (d + 1) ++ flat (Fs.drop (j + 1)) (d + 1) by rw [← flat_app, List.take_append_drop], HTK.out, wl_app, wl_app]
              have e1 : run step s1 (wl (flat (Fs.take j) (d + 1)) ++ wl (G (d + 1))) = (s3, false) := by
                rw [run_on (by rw [HR.out]), HR.out]; exact HSB.out
              rw [run_off (by rw [e1]), e1])
            clear HRR HTK HSB HR
            go_wp2
            go_returns
            exact ⟨rfl, HI3, HKA⟩
          · have HR2 : Hid (run step s1 (wl (flat (Fs.take (j + 1)) (d + 1))) = (s3, true)) := Lib.hid (by
              rw [HTK.out, wl_app, run_on (by rw [HR.out]), HR.out]; exact HSB.out)
            clear HTK HSB HR
            go_wp2
            go_roundw
            case rel => exact ⟨j + 1, s3, by omega, by go_num, HR2, HI3, HKA, HV⟩
            case measure => simp [intOf]; omega
        · have jk : j = p.k := by omega
          obtain rfl : R = (s2, true) := HRR.out.symm.trans (by
            have := HR.out
            rwa [List.take_of_length_le (by rw [HL.out]; omega)] at this)
          have i1 : (p.k : Int) ≤ (j : Int) := by omega
          clear HRR HR
          go_wp2
          go_returns
          exact ⟨rfl, HI2, HKA⟩
set_option maxRecDepth 8000 in
set_option maxHeartbeats 2000000 in
theorem visit_any {σ : Type} (step : σ → Pt → Int → σ × Bool) (I : σ → World → Prop) (K : FuncId) (caps : Array Value) (w0 : World) (hB : ∀ s W, I s W → Below w0.heap.size w0 W) (hK : ∀ s W W', I s W → Below W.heap.size W W' → I s W') (m : σ → Nat) (LIM : Nat) (hm : ∀ s p d, m (step s p d).1 ≤ m s + 1) (hS : StepOk step I K caps w0 m LIM) (hE : ∀ (args : Array Value) (w : World), (callFunc K args).run Tryz.prog w = .ok (.enter K args) w)
    (n : Nat) (v : Value) (F : Tour) (hF : ExAt w0 n v F) (s : σ) (W : World) (hL0 : m s + (F 1).length ≤ LIM) (hI : I s W) :
    Calls Tryz.prog 16 #[v, .func (.func K) #[] caps] W fun e W' => e = .returned (.tuple #[]) ∧ Hid (I (run step s (wl (F 1))).1 W') ∧ Hid (Kp W W') := by
  have HW := Lib.hid (fun (wb kb : Nat) (W : World) (HI : I s W) (HV : Vis K caps wb kb W) => (by have z := walk_any step I K caps w0 wb kb hB hK m LIM hm hS hE n v F hF 1 s W hL0 HI HV; rw [show wrap64 1 = 1 by unfold wrap64; omega] at z; exact z))
  obtain ⟨p, an, nn, nc, aa, ac, rfl, hh⟩ := hF.head
  have HK := Lib.hid hK
  have HI := Lib.hid hI
  clear hB hS hE hK hI hF hh hm hL0
  obtain ⟨bx, hbx⟩ : ∃ z, W.heap.size = z := ⟨_, rfl⟩
  obtain ⟨w1, hw1⟩ : ∃ z, (W.alloc (.cells #[.int .u8 p.op, .string p.nm, .slice an nn nc, .slice aa p.k ac] 25)).alloc (.cells #[.func (.func K) #[] caps] 50) = z := ⟨_, rfl⟩
  have KA : Hid (Below W.heap.size W w1) := Lib.hid (by rw [← hw1]; exact ((Below.refl _ W).alloc (Nat.le_refl _) _).alloc (by simp) _)
  have X1 : Hid (w1.heap[bx]? = some (.cells #[.int .u8 p.op, .string p.nm, .slice an nn nc, .slice aa p.k ac] 25 (0, 0))) := Lib.hid (by rw [← hw1, al_old _ _ (by simp; omega), ← hbx, al_new])
  have X2 : Hid (w1.heap[bx + 1]? = some (.cells #[.func (.func K) #[] caps] 50 (0, 0))) := Lib.hid (by rw [← hw1, show bx + 1 = (W.alloc (.cells #[.int .u8 p.op, .string p.nm, .slice an nn nc, .slice aa p.k ac] 25)).heap.size by simp; omega, al_new])
  go_enter Tryz.func16, Tryz.ntmps16
  go_upto_region 3 with fail
  obtain ⟨kb, hkb⟩ : ∃ z, w1.heap.size = z := ⟨_, rfl⟩
  obtain ⟨w2, hw2⟩ : ∃ z, w1.alloc (.cells #[.func (.func 41) #[] #[.pointer (some ⟨bx + 1, 0, none⟩), .pointer (some ⟨kb, 0, none⟩)]] 50) = z := ⟨_, rfl⟩
  rw [hkb, hw2]
  have KB : Below w1.heap.size w1 w2 := by rw [← hw2]; exact (Below.refl _ w1).alloc (Nat.le_refl _) _
  have X3 : Hid (w2.heap[kb]? = some (.cells #[.func (.func 41) #[] #[.pointer (some ⟨bx + 1, 0, none⟩), .pointer (some ⟨kb, 0, none⟩)]] 50 (0, 0))) := Lib.hid (by rw [← hw2, ← hkb]; exact al_new w1 _)
  have X1 := Lib.hid ((KB.block bx (Array.getElem?_eq_some_iff.1 X1.out).1).trans X1.out)
  have X2 := Lib.hid ((KB.block (bx + 1) (Array.getElem?_eq_some_iff.1 X2.out).1).trans X2.out)
  have HI := Lib.hid (HK.out _ _ _ (HK.out _ _ _ HI.out KA.out) KB)
  have KK := Lib.hid ((Kp.of_below KA.out).trans (Kp.of_below KB))
  have HC := Lib.hid (HW.out (bx + 1) kb w2 HI.out ⟨X2.out, X3.out⟩)
  clear hw1 hw2 hbx hkb KB KA HW HI
  have e0 := cell_blk X1.out 0
  have e1 := cell_blk X1.out 1
  have e2 := cell_blk X1.out 2
  have e3 := cell_blk X1.out 3
  have e4 := cell_blk X3.out 0
  go_wp2_with fail
  (with_reducible refine HC.out.mono ?_)
  rintro e w3 ⟨rfl, HI, K3⟩
  have KK := Lib.hid (KK.out.trans K3.out)
  clear HC K3 e0 e1 e2 e3 e4
  go_wp2
  go_returns
  exact ⟨rfl, HI, KK⟩

/-- How deep what is met lies. -/
theorem ex_near {w : World} : ∀ {n : Nat} {v : Value} {F : Tour}, ExAt w n v F → ∀ d, ∀ x ∈ F d, d ≤ x.2 ∧ x.2 < d + (F d).length
  | 0, _, _, h => h.elim
  | n + 1, v, F, h => by
    obtain ⟨p, an, nn, nc, aa, ac, Fs, rfl, hh, hl, rfl, hc⟩ := h
    intro d x hx
    have hx : x ∈ (p, d) :: flat Fs (d + 1) := hx
    have hlen : ((fun d => (p, d) :: flat Fs (d + 1)) d).length = 1 + (flat Fs (d + 1)).length := by simp; omega
    rw [hlen]
    rcases List.mem_cons.1 hx with rfl | hx
    · exact ⟨by simp, by simp; omega⟩
    · unfold flat at hx
      obtain ⟨L, hL, hx⟩ := List.mem_flatten.1 hx
      obtain ⟨G, hG, rfl⟩ := List.mem_map.1 hL
      obtain ⟨i, hi, rfl⟩ := List.getElem_of_mem hG
      obtain ⟨b, q, _, hr⟩ := hc (by omega)
      obtain ⟨x0, x1, x2, x3, _, _, _, _, hr⟩ := hr i hi
      have k := ex_near hr (d + 1) x hx
      have hle : (Fs[i] (d + 1)).length ≤ (flat Fs (d + 1)).length := by
        have e1 : flat (Fs.take (i + 1)) (d + 1) = flat (Fs.take i) (d + 1) ++ Fs[i] (d + 1) := by rw [List.take_succ_eq_append_getElem hi, flat_snoc]
        have e2 : (flat Fs (d + 1)).length = (flat (Fs.take (i + 1)) (d + 1)).length + (flat (Fs.drop (i + 1)) (d + 1)).length := by rw [← List.length_append, ← flat_app, List.take_append_drop]
        rw [e1, List.length_append] at e2
        omega
      omega
theorem wl_same {w : World} {n : Nat} {v : Value} {F : Tour} (h : ExAt w n v F) (hl : (F 1).length ≤ 2000) : wl (F 1) = F 1 := by
  unfold wl
  have : ∀ x ∈ F 1, (x.1, wrap64 x.2) = x := fun x hx => by
    have := ex_near h 1 x hx
    have e : wrap64 x.2 = x.2 := by unfold wrap64; omega
    rw [e]
  have e := List.map_congr_left (f := fun x : Pt × Int => (x.1, wrap64 x.2)) (g := id) (l := F 1) this
  rw [e, List.map_id]
def cntW (c : Int) (p : Pt) (d : Int) : Int × Bool := (wrap64 (c + 1), true)
theorem cntW_run : ∀ (l : List (Pt × Int)) (c : Int), 0 ≤ c → c + l.length ≤ 9223372036854775807 → run cntW c l = (c + l.length, true)
  | [], c, _, _ => by simp [run]
  | x :: r, c, h0, h1 => by
    have h2 : c + 1 + (r.length : Int) ≤ 9223372036854775807 := by simp at h1; omega
    have hw : wrap64 (c + 1) = c + 1 := by unfold wrap64; omega
    rw [run_t rfl]
    show run cntW (wrap64 (c + 1)) r = _
    rw [hw, cntW_run r (c + 1) (by omega) h2]
    simp; omega
/-- A cell of a number, of a visitor's own. -/
structure CellI (w0 : World) (nb : Nat) (c : Int) (W : World) : Prop where
  bw : Below w0.heap.size w0 W
  lo : w0.heap.size ≤ nb
  cell : W.heap[nb]? = some (.cells #[.int .i64 c] 3 (0, 0))
theorem CellI.keep {w0 W W' : World} {nb : Nat} {c : Int} (h : CellI w0 nb c W) (q : Below W.heap.size W W') : CellI w0 nb c W' :=
  ⟨h.bw.trans (q.mono h.bw.size), h.lo, (q.block nb (Array.getElem?_eq_some_iff.1 h.cell).1).trans h.cell⟩
theorem CellI.put {w0 W : World} {nb : Nat} {c : Int} (h : CellI w0 nb c W) (x : Int) : CellI w0 nb x (W.setCell ⟨nb, 0, none⟩ (.int .i64 x)) :=
  ⟨h.bw.setCell (p := ⟨nb, 0, none⟩) h.lo _, h.lo, by rw [set_block h.cell]; rfl⟩
set_option maxHeartbeats 1000000 in
theorem cnt_step (w0 : World) (nb : Nat) (LIM : Nat) : StepOk cntW (CellI w0 nb) 17 #[.pointer (some ⟨nb, 0, none⟩)] w0 (fun _ => 0) LIM := by
  intro c W p an nn nc aa ac d hh d1 d2 hI _
  show Calls Tryz.prog 17 #[.agg #[.int .u8 p.op, .string p.nm, .slice an nn nc, .slice aa p.k ac], .int .i64 d, .pointer (some ⟨nb, 0, none⟩)] W _
  obtain ⟨w1, hw1⟩ : ∃ z, W.alloc (.cells #[.int .u8 p.op, .string p.nm, .slice an nn nc, .slice aa p.k ac] 25) = z := ⟨_, rfl⟩
  have KA : Below W.heap.size W w1 := by rw [← hw1]; exact (Below.refl _ W).alloc (Nat.le_refl _) _
  have HI := Lib.hid (hI.keep KA)
  have KK := Lib.hid (Kp.of_below KA)
  clear KA hI hh
  have e0 := cell_blk HI.out.cell 0
  have f0 := blk_free HI.out.cell 0
  go_enter Tryz.func17, Tryz.ntmps17
  go_wp2
  go_returns
  refine ⟨rfl, Lib.hid ?_, ?_⟩
  · exact HI.out.put (wrap64 (c + 1))
  · exact Lib.hid (KK.out.trans (Kp.set HI.out.cell (by decide) (by decide) 0 _))
theorem enters28 : ∀ (args : Array Value) (w : World), (callFunc 17 args).run Tryz.prog w = .ok (.enter 17 args) w := enters_of Tryz.func17 (by kernel_rfl) rfl
set_option maxHeartbeats 1000000 in
theorem count_any (n : Nat) (v : Value) (F : Tour) (w : World) (hF : ExAt w n v F) :
    Calls Tryz.prog 5 #[v] w fun e w' => e = .returned (.int .i64 (run cntW 0 (wl (F 1))).1) ∧ Below w.heap.size w w' := by
  obtain ⟨nb, hnb⟩ : ∃ z, w.heap.size + 1 = z := ⟨_, rfl⟩
  have HV := Lib.hid (fun s W h => visit_any cntW (CellI w nb) 17 #[.pointer (some ⟨nb, 0, none⟩)] w (fun s W h => h.bw) (fun s W W' h q => h.keep q) (fun _ => 0) ((F 1).length + 1) (fun _ _ _ => Nat.zero_le _) (cnt_step w nb _) enters28 n v F hF s W (by omega) h)
  obtain ⟨p, an, nn, nc, aa, ac, rfl, _⟩ := hF.head
  have HR : Hid ((run cntW 0 (wl (F 1))).1 = (run cntW 0 (wl (F 1))).1) := Lib.hid rfl
  obtain ⟨L, hL⟩ : ∃ L, (run cntW 0 (wl (F 1))).1 = L := ⟨_, rfl⟩
  rw [hL] at HR ⊢
  obtain ⟨bx, hbx⟩ : ∃ z, w.heap.size = z := ⟨_, rfl⟩
  clear hF
  go_enter Tryz.func5, Tryz.ntmps5
  go_upto_region 2 with fail
  obtain ⟨w1, hw1⟩ : ∃ z, (w.alloc (.cells #[.int .u8 p.op, .string p.nm, .slice an nn nc, .slice aa p.k ac] 25)).alloc (.cells #[.int .i64 0] 3) = z := ⟨_, rfl⟩
  have X1 : Hid (w1.heap[bx]? = some (.cells #[.int .u8 p.op, .string p.nm, .slice an nn nc, .slice aa p.k ac] 25 (0, 0))) := Lib.hid (by rw [← hw1, al_old _ _ (by simp; omega), ← hbx, al_new])
  have HI : Hid (CellI w nb 0 w1) := Lib.hid ⟨by rw [← hw1]; exact ((Below.refl _ w).alloc (Nat.le_refl _) _).alloc (by simp) _, by omega, by rw [← hw1, show nb = (w.alloc (.cells #[.int .u8 p.op, .string p.nm, .slice an nn nc, .slice aa p.k ac] 25)).heap.size by simp; omega, al_new]⟩
  have hn2 : nb = bx + 1 := by omega
  have HC := Lib.hid (HV.out 0 w1 HI.out)
  rw [hL] at HC
  subst hn2
  clear HV HR hL hnb
  rw [hw1]
  have BX := Lib.hid HI.out.bw
  have e0 := cell_blk X1.out 0
  have e1 := cell_blk X1.out 1
  have e2 := cell_blk X1.out 2
  have e3 := cell_blk X1.out 3
  clear hw1 hbx HI
  go_wp2_with fail
  (with_reducible refine HC.out.mono ?_)
  rintro e w3 ⟨rfl, HI, K3⟩
  have n0 := cell_blk HI.out.cell 0
  have HF := Lib.hid HI.out.bw
  clear HC K3 e0 e1 e2 e3 HI BX
  go_wp2
  go_returns
  exact ⟨rfl, HF.out⟩

theorem count_small {w : World} {n : Nat} {v : Value} {F : Tour} (h : ExAt w n v F) (hl : (F 1).length ≤ 2000) : (run cntW 0 (wl (F 1))).1 = ((F 1).length : Int) := by
  rw [wl_same h hl, cntW_run _ 0 (by omega) (by omega)]; simp
end Go.Proofs.YtimjendkpjojoaaGreatDoor
