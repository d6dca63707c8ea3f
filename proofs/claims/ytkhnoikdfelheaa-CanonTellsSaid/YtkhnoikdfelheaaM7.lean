/- Contracts: is an exception usual, of Is. -/
import Derived.Test.YtkhnoikdfelheaaM5
import Derived.Test.YtkhnoikdfelheaaM6
namespace Go.Proofs.Ytkhnoikdfelheaa
set_option linter.unusedVariables false
set_option linter.unusedSimpArgs false
open Go.ChangeShapes Go.WideShapes Go.ChangeAt Go.RowKit
theorem isC_any (F : Fv) (X : Int) (lo : Option Addr) (lm ld : Nat) (L : List Sp) (w0 w : World) (b : Nat) (hF : Fbox F w0 w b) (ok : F.Ok) (hL : SpAt w lo lm ld L) (gL : Good L) (hX : InR X) (r : Bool) (hr : r = true ↔ L = cg F.cs F.P F.N X) :
    Calls Try.prog 35 #[.agg #[.int .i64 X, .slice lo lm ld], .pointer (some ⟨b, 0, none⟩)] w fun e w' => e = .returned (.bool r) ∧ Below w.heap.size w w' := by
  have KA := (Below.refl _ w).alloc (Nat.le_refl _) (.cells #[.int .i64 X, .slice lo lm ld] 43)
  obtain ⟨wb, hwb⟩ : ∃ wb, w.alloc (.cells #[.int .i64 X, .slice lo lm ld] 43) = wb := ⟨_, rfl⟩
  obtain ⟨x0, x1⟩ := box_cells w (.int .i64 X) (.slice lo lm ld) 43
  rw [hwb] at KA x0 x1
  have HU := Lib.hid (usual_any F X lo lm ld L wb (hF.at_.keep KA) ok (hL.keep KA) gL hX r hr)
  have e0 := cell_keep hF.c0 KA
  have e1 := cell_keep hF.c1 KA
  have e2 := cell_keep hF.c2 KA
  have e3 := cell_keep hF.c3 KA
  have HK := Lib.hid KA
  clear hF ok hL gL hX hr KA
  obtain ⟨P, N, co, cn, cc, oo, on, oc, cs, os⟩ := F
  have HU : Hid (Calls Try.prog 27 #[.agg #[.int .i64 P, .int .i64 N, .slice co cn cc, .slice oo on oc], .agg #[.int .i64 X, .slice lo lm ld]] wb fun e w' => e = .returned (.bool r) ∧ Below wb.heap.size wb w') := HU
  dsimp only at e0 e1 e2 e3
  go_enter Try.func35, Try.ntmps35
  go_wp2_with fail
  (with_reducible refine HU.out.mono ?_)
  rintro e w1 ⟨rfl, q⟩
  have HQ := Lib.hid q
  clear q
  go_wp2
  go_returns
  exact ⟨rfl, HK.out.trans (HQ.out.mono HK.out.size)⟩
set_option maxHeartbeats 1000000 in
theorem indexUsual_any (F : Fv) (w0 w : World) (b : Nat) (hF : Fbox F w0 w b) (ok : F.Ok) :
    Calls Try.prog 55 #[.slice F.oo F.on F.oc, .func (.func 35) #[] #[.pointer (some ⟨b, 0, none⟩)]] w fun e w' => ∃ k : Int, e = .returned (.int .i64 k) ∧ Hid ((k < 0 ∧ ∀ o ∈ F.os, o.2 ≠ cg F.cs F.P F.N o.1) ∨ (0 ≤ k ∧ ∃ o ∈ F.os, o.2 = cg F.cs F.P F.N o.1)) ∧ Below w.heap.size w w' := by
  have HF := Lib.hid hF
  have HO := Lib.hid ok.odd
  have LO := Lib.hid hF.at_.odd.len
  have HIS := Lib.hid (fun W (h : Below w.heap.size w W) X lo lm ld L (hL : SpAt W lo lm ld L) gL hX r hr => isC_any F X lo lm ld L w0 W b (hF.keep h) ok hL gL hX r hr)
  have hmx : F.on ≤ 9223372036854775807 := Nat.le_trans hF.at_.odd.le hF.at_.odd.top
  clear hF ok
  obtain ⟨P, N, co, cn, cc, oo, on, oc, cs, os⟩ := F
  have LO : Hid (os.length = on) := LO
  have HO : Hid (OddOk os) := HO
  have hmx : on ≤ 9223372036854775807 := hmx
  show Calls Try.prog 55 #[.slice oo on oc, .func (.func 35) #[] #[.pointer (some ⟨b, 0, none⟩)]] w fun e w' => ∃ k : Int, e = .returned (.int .i64 k) ∧ Hid ((k < 0 ∧ ∀ o ∈ os, o.2 ≠ cg cs P N o.1) ∨ (0 ≤ k ∧ ∃ o ∈ os, o.2 = cg cs P N o.1)) ∧ Below w.heap.size w w'
  go_enter Try.func55, Try.ntmps55
  go_wp2
  go_loopw [8] (fun ii wr => ∃ i : Nat, i ≤ on ∧ ii = .int .i64 i ∧ Hid (∀ o ∈ os.take i, o.2 ≠ cg cs P N o.1) ∧ Hid (Below w.heap.size w wr)) (fun ii _ => on - (intOf ii).toNat)
  case atStart => exact ⟨0, Nat.zero_le _, rfl, Lib.hid (fun l h => by cases h), Lib.hid (Below.refl _ _)⟩
  case round =>
    obtain ⟨i, hi, rfl, HG, HW⟩ := hrel
    by_cases ilt : i < on
    · have HCW := (show OdAt wr oo on oc os from (HF.out.keep HW.out).at_.odd)
      obtain ⟨g, p, rfl, hc⟩ := HCW.here (by omega)
      have hil : i < os.length := by rw [LO.out]; exact ilt
      obtain ⟨d1, ⟨o, m, d, d2, d3⟩, d4, d5⟩ := hc i hil
      have hgd := HO.out.good _ (List.getElem_mem hil)
      obtain ⟨r, hr⟩ : ∃ r : Bool, r = true ↔ os[i].2 = cg cs P N os[i].1 := by classical exact ⟨decide _, decide_eq_true_iff⟩
      have HD := Lib.hid (HIS.out wr HW.out os[i].1 o m d os[i].2 d3 hgd.1 hgd.2 r hr)
      have i0 : (0 : Int) ≤ (i : Int) := by omega
      have i1 : (i : Int) < (on : Int) := by omega
      have HM := Lib.hid (List.getElem_mem hil)
      have HR := Lib.hid hr
      have HTS := Lib.hid (List.take_succ_eq_append_getElem hil)
      obtain ⟨X, hX⟩ : ∃ X, os[i].1 = X := ⟨_, rfl⟩
      rw [hX] at d1 HD
      clear hc d3 hr HCW hgd
      cases r
      · have HG2 : Hid (∀ l ∈ os.take (i + 1), l.2 ≠ cg cs P N l.1) := Lib.hid (fun l hl => by
          rw [HTS.out] at hl
          rcases List.mem_append.1 hl with h | h
          · exact HG.out l h
          · rw [List.mem_singleton.1 h]
            exact fun z => by have := HR.out.2 z; cases this)
        clear HR HM HTS d4 d5 hX
        clear hil
        go_wp2_with fail
        (with_reducible refine HD.out.mono ?_)
        rintro e w2 ⟨rfl, q⟩
        have HW2 := Lib.hid (HW.out.trans (q.mono HW.out.size))
        clear q d1 d2
        go_wp2
        go_roundw
        case rel => exact ⟨i + 1, by omega, by go_num, HG2, HW2⟩
        case measure => simp [intOf]; omega
      · have HNO : Hid (∃ o ∈ os, o.2 = cg cs P N o.1) := Lib.hid ⟨_, HM.out, HR.out.1 rfl⟩
        clear HR HM HTS d4 d5 hX
        clear hil
        go_wp2_with fail
        (with_reducible refine HD.out.mono ?_)
        rintro e w2 ⟨rfl, q⟩
        have HW2 := Lib.hid (HW.out.trans (q.mono HW.out.size))
        clear q d1 d2
        go_wp2
        go_returns
        exact ⟨_, rfl, Lib.hid (.inr ⟨by omega, HNO.out⟩), HW2.out⟩
    · obtain rfl : on = i := by omega
      have HA : Hid (∀ o ∈ os, o.2 ≠ cg cs P N o.1) := Lib.hid (by
        have h := HG.out
        rw [List.take_of_length_le (by rw [LO.out]; exact Nat.le_refl _)] at h
        exact h)
      go_wp2
      go_returns
      exact ⟨_, rfl, Lib.hid (.inl ⟨by omega, HA.out⟩), HW.out⟩
theorem containsUsual_any (F : Fv) (w0 w : World) (b : Nat) (hF : Fbox F w0 w b) (ok : F.Ok) (r : Bool) (hr : r = true ↔ ∃ o ∈ F.os, o.2 = cg F.cs F.P F.N o.1) :
    Calls Try.prog 34 #[.slice F.oo F.on F.oc, .func (.func 35) #[] #[.pointer (some ⟨b, 0, none⟩)]] w fun e w' => e = .returned (.bool r) ∧ Below w.heap.size w w' := by
  have K := Lib.hid (indexUsual_any F w0 w b hF ok)
  have HR := Lib.hid hr
  clear hF ok hr
  go_enter Try.func34, Try.ntmps34
  go_wp2_with fail
  (with_reducible refine K.out.mono ?_)
  rintro e w1 ⟨k, rfl, HK, q⟩
  rcases HK.out with ⟨h1, h2⟩ | ⟨h1, h2⟩
  · have HE : Hid (r = false) := Lib.hid (by
      cases r
      · rfl
      · obtain ⟨l, hl, hn⟩ := HR.out.1 rfl
        exact absurd hn (h2 l hl))
    have t1 : ¬ 0 ≤ k := by omega
    clear h2 HK
    go_wp2
    go_returns
    exact ⟨ret_bool (by rw [HE.out]; (first | done | (simp; done) | (simp; omega))), q⟩
  · have HE : Hid (r = true) := Lib.hid (HR.out.2 h2)
    clear h2 HK
    go_wp2
    go_returns
    exact ⟨ret_bool (by rw [HE.out]; (first | done | (simp; done) | (simp; omega))), q⟩
end Go.Proofs.Ytkhnoikdfelheaa
