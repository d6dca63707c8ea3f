/- FormNext: the walk. -/
import Derived.Test.YtijpejjkbioekaaL3
namespace Go.Proofs.Ytijpejjkbioekaa
set_option linter.unusedVariables false
set_option linter.unusedSimpArgs false
open Go.ChangeShapes Go.WideShapes Go.ChangeAt Go.RowKit
set_option maxRecDepth 8000 in
set_option maxHeartbeats 8000000 in
theorem next_all (F : Fv) (i0 : Int) (w : World) (hF : F.At w) (hi1 : -2147483648 ≤ i0) (hi2 : i0 ≤ 2147483647) :
    Calls Try.prog 5 #[F.v, .int .i32 i0] w fun e w' => e = .returned (.bool true) ∧ Below w.heap.size w w' := by
  have HAW := Lib.hid (fun W => awake_any W)
  obtain ⟨r, hr⟩ : ∃ r : Bool, r = true ↔ F.Small ∧ F.Rt := by classical exact ⟨decide _, decide_eq_true_iff⟩
  have HRI := Lib.hid (fun W h => right_any2 F W h r hr)
  have HOK : Hid (r = true → F.Ok) := Lib.hid (fun q => (hr.1 q).2.ok (hr.1 q).1)
  obtain ⟨k, hk⟩ : ∃ q, i0 / 2 = q := ⟨_, rfl⟩
  have kb1 : -1073741824 ≤ k := by omega
  have kb2 : k ≤ 1073741824 := by omega
  clear hr
  obtain ⟨P, N, co, cn, cc, oo, on, oc, cs, os⟩ := F
  have LC : Hid (cs.length = cn) := Lib.hid hF.core.len
  have LO : Hid (os.length = on) := Lib.hid hF.odd.len
  have hmc : cn ≤ 9223372036854775807 := Nat.le_trans hF.core.le hF.core.top
  have hmo : on ≤ 9223372036854775807 := Nat.le_trans hF.odd.le hF.odd.top
  obtain ⟨b, hb⟩ : ∃ b, w.heap.size = b := ⟨_, rfl⟩
  obtain ⟨wb, hwb⟩ : ∃ wb, w.alloc (.cells #[.int .i64 P, .int .i64 N, .slice co cn cc, .slice oo on oc] 25) = wb := ⟨_, rfl⟩
  have HBB : Hid (Fbox ⟨P, N, co, cn, cc, oo, on, oc, cs, os⟩ w wb b) := Lib.hid (by rw [← hwb, ← hb]; exact fbox_new hF)
  clear hF
  show Calls Try.prog 5 #[.agg #[.int .i64 P, .int .i64 N, .slice co cn cc, .slice oo on oc], .int .i32 i0] w _
  go_enter Try.func5, Try.ntmps5
  go_upto_region 1 with fail
  clear hwb hb
  have e0 : wb.cell? ⟨b, 0, none⟩ = some (.int .i64 P) := HBB.out.c0
  have e1 : wb.cell? ⟨b, 1, none⟩ = some (.int .i64 N) := HBB.out.c1
  have e2 : wb.cell? ⟨b, 2, none⟩ = some (.slice co cn cc) := HBB.out.c2
  have e3 : wb.cell? ⟨b, 3, none⟩ = some (.slice oo on oc) := HBB.out.c3
  have HRI : Hid (∀ W, Fv.At ⟨P, N, co, cn, cc, oo, on, oc, cs, os⟩ W → Calls Try.prog 7 #[.agg #[.int .i64 P, .int .i64 N, .slice co cn cc, .slice oo on oc]] W fun e w' => e = .returned (.bool r) ∧ Below W.heap.size W w') := HRI
  go_wp2_with fail
  (with_reducible refine (HRI.out _ HBB.out.at_).mono ?_)
  rintro e w2 ⟨rfl, q⟩
  have HBB := Lib.hid (HBB.out.keep q)
  try clear e0 e1 e2 e3
  clear q HRI
  cases r
  · skip
    go_wp2_with fail
    (with_reducible refine (HAW.out _).mono ?_)
    rintro e w9 ⟨rfl, q⟩
    have HBB := Lib.hid (HBB.out.keep q)
    clear q
    go_wp2
    go_returns
    exact ⟨rfl, HBB.out.bw⟩
  · skip
    have e0 : w2.cell? ⟨b, 0, none⟩ = some (.int .i64 P) := HBB.out.c0
    have e1 : w2.cell? ⟨b, 1, none⟩ = some (.int .i64 N) := HBB.out.c1
    have e2 : w2.cell? ⟨b, 2, none⟩ = some (.slice co cn cc) := HBB.out.c2
    have e3 : w2.cell? ⟨b, 3, none⟩ = some (.slice oo on oc) := HBB.out.c3
    have HNE : Hid (∀ x W, gr ⟨P, N, co, cn, cc, oo, on, oc, cs, os⟩ x = [] → Fv.At ⟨P, N, co, cn, cc, oo, on, oc, cs, os⟩ W → Calls Try.prog 9 #[.agg #[.int .i64 P, .int .i64 N, .slice co cn cc, .slice oo on oc], .int .i64 x] W fun e w' => ∃ (ao : Option Addr) (c : Nat) (z : Int), e = .returned (.tuple #[.slice ao 0 c, .int .i64 z]) ∧ Hid (Below W.heap.size W w') ∧ (z = 0 ∨ z = 20)) := Lib.hid (fun x W h0 h => by
      refine (get_any2 ⟨P, N, co, cn, cc, oo, on, oc, cs, os⟩ x W h (HOK.out (by first | rfl | trivial)) [] h0).mono ?_
      rintro e w' ⟨ao, n, c, L, z, rfl, q, hs, hz⟩
      have hl := hs.out.len
      rcases hz with ⟨rfl, ht⟩ | ⟨rfl, rfl, _⟩
      · have : n = 0 := by rw [← hl, ht.out.2]; rfl
        subst this
        exact ⟨ao, c, 0, rfl, q, .inl rfl⟩
      · exact ⟨ao, c, 20, rfl, q, .inr rfl⟩)
    have HBH : Hid (∀ W, Fv.At ⟨P, N, co, cn, cc, oo, on, oc, cs, os⟩ W → Calls Try.prog 15 #[.agg #[.int .i64 P, .int .i64 N, .slice co cn cc, .slice oo on oc], .int .i64 k] W fun e w' => BeOut ⟨P, N, co, cn, cc, oo, on, oc, cs, os⟩ k 1 e ∧ Hid (Below W.heap.size W w')) := Lib.hid (fun W h => behind_any ⟨P, N, co, cn, cc, oo, on, oc, cs, os⟩ k W h (HOK.out (by first | rfl | trivial)) ⟨by omega, by omega⟩)
    have HBF : Hid (∀ x, InR x → ∀ W, Fv.At ⟨P, N, co, cn, cc, oo, on, oc, cs, os⟩ W → Calls Try.prog 16 #[.agg #[.int .i64 P, .int .i64 N, .slice co cn cc, .slice oo on oc], .int .i64 x] W fun e w' => BeOut ⟨P, N, co, cn, cc, oo, on, oc, cs, os⟩ x (-1 : Int) e ∧ Hid (Below W.heap.size W w')) := Lib.hid (fun x hx W h => before_any ⟨P, N, co, cn, cc, oo, on, oc, cs, os⟩ x W h (HOK.out (by first | rfl | trivial)) hx)
    have HKR : Hid (InR k) := Lib.hid ⟨by omega, by omega⟩
    go_wp2_with fail
    (with_reducible refine (HBH.out _ HBB.out.at_).mono ?_)
    rintro e w3 ⟨⟨high, ok, rfl, hy1, hn1⟩, q⟩
    have HBB := Lib.hid (HBB.out.keep q.out)
    try clear e0 e1 e2 e3
    have HY1 := Lib.hid hy1
    have HN1 := Lib.hid hn1
    clear q hy1 hn1 HBH
    have e0 : w3.cell? ⟨b, 0, none⟩ = some (.int .i64 P) := HBB.out.c0
    have e1 : w3.cell? ⟨b, 1, none⟩ = some (.int .i64 N) := HBB.out.c1
    have e2 : w3.cell? ⟨b, 2, none⟩ = some (.slice co cn cc) := HBB.out.c2
    have e3 : w3.cell? ⟨b, 3, none⟩ = some (.slice oo on oc) := HBB.out.c3
    go_wp2_with fail
    (with_reducible refine (HBF.out k HKR.out _ HBB.out.at_).mono ?_)
    rintro e w4 ⟨⟨low, is, rfl, hy2, hn2⟩, q⟩
    have HBB := Lib.hid (HBB.out.keep q.out)
    try clear e0 e1 e2 e3
    have HY2 := Lib.hid hy2
    have HN2 := Lib.hid hn2
    clear q hy2 hn2
    cases ok
    · cases is
      · skip
        clear HY1 HN1 HY2 HN2
        go_wp2
        go_loopw [10] (fun xx wr => xx = .int .i64 (k + 1) ∧ Hid (Fbox ⟨P, N, co, cn, cc, oo, on, oc, cs, os⟩ w wr b)) (fun _ _ => 0)
        case atStart => exact ⟨rfl, HBB⟩
        case round =>
          obtain ⟨rfl, HW⟩ := hrel
          have HBB := HW
          clear HW
          go_wp2
          go_loopw [13] (fun xx wr => xx = .int .i64 (k - 1) ∧ Hid (Fbox ⟨P, N, co, cn, cc, oo, on, oc, cs, os⟩ w wr b)) (fun _ _ => 0)
          case atStart => exact ⟨rfl, HBB⟩
          case round =>
            obtain ⟨rfl, HW⟩ := hrel
            have HBB := HW
            clear HW
            skip
            go_wp2_with fail
            (with_reducible refine (HAW.out _).mono ?_)
            rintro e w9 ⟨rfl, q⟩
            have HBB := Lib.hid (HBB.out.keep q)
            clear q
            go_wp2
            go_returns
            exact ⟨rfl, HBB.out.bw⟩
      · skip
        have HE2 : Hid (∀ x, x < k → low < x → gr ⟨P, N, co, cn, cc, oo, on, oc, cs, os⟩ x = []) := Lib.hid (fun x h1 h2 => ((HY2.out (by first | rfl | trivial)).1.yes rfl).2.2 x (by omega) (by omega))
        have HLG : Hid (low < k ∧ gr ⟨P, N, co, cn, cc, oo, on, oc, cs, os⟩ low ≠ [] ∧ InR low) := Lib.hid (by obtain ⟨h1, h2, h3⟩ := (HY2.out (by first | rfl | trivial)).1.yes rfl; exact ⟨by omega, h2, (HY2.out (by first | rfl | trivial)).2⟩)
        have hl1 : -1099511627776 ≤ low := HLG.out.2.2.1
        have hl2 : low ≤ 1099511627776 := HLG.out.2.2.2
        have hl3 := HLG.out.1
        clear HY1 HN1 HY2 HN2
        go_wp2
        go_loopw [10] (fun xx wr => xx = .int .i64 (k + 1) ∧ Hid (Fbox ⟨P, N, co, cn, cc, oo, on, oc, cs, os⟩ w wr b)) (fun _ _ => 0)
        case atStart => exact ⟨rfl, HBB⟩
        case round =>
          obtain ⟨rfl, HW⟩ := hrel
          have HBB := HW
          clear HW
          go_wp2
          go_loopw [13] (fun xx wr => ∃ x : Int, xx = .int .i64 x ∧ (x ≤ k - 1 ∧ k - 40 ≤ x) ∧ Hid (Fbox ⟨P, N, co, cn, cc, oo, on, oc, cs, os⟩ w wr b)) (fun xx _ => (intOf xx + 41 - k).toNat)
          case atStart => exact ⟨k - 1, rfl, by omega, HBB⟩
          case round =>
            obtain ⟨x, rfl, ⟨hx1, hx2⟩, HW⟩ := hrel
            have HBB := HW
            clear HW
            by_cases c1 : low < x
            · by_cases c2 : k - 40 < x
              · have HEM : Hid (gr ⟨P, N, co, cn, cc, oo, on, oc, cs, os⟩ x = []) := Lib.hid (HE2.out x (by omega) c1)
                have e0 : wr.cell? ⟨b, 0, none⟩ = some (.int .i64 P) := HBB.out.c0
                have e1 : wr.cell? ⟨b, 1, none⟩ = some (.int .i64 N) := HBB.out.c1
                have e2 : wr.cell? ⟨b, 2, none⟩ = some (.slice co cn cc) := HBB.out.c2
                have e3 : wr.cell? ⟨b, 3, none⟩ = some (.slice oo on oc) := HBB.out.c3
                go_wp2_with fail
                (with_reducible refine (HNE.out x _ HEM.out HBB.out.at_).mono ?_)
                rintro e w5 ⟨ao, c, z, rfl, q, hz⟩
                have HBB := Lib.hid (HBB.out.keep q.out)
                clear q e0 e1 e2 e3 HEM
                rcases hz with rfl | rfl <;>
                · go_wp2
                  go_roundw
                  case rel => exact ⟨x - 1, by go_num, by omega, HBB⟩
                  case measure => simp [intOf]; omega
              · skip
                skip
                go_wp2_with fail
                (with_reducible refine (HAW.out _).mono ?_)
                rintro e w9 ⟨rfl, q⟩
                have HBB := Lib.hid (HBB.out.keep q)
                clear q
                go_wp2
                go_returns
                exact ⟨rfl, HBB.out.bw⟩
            · skip
              skip
              go_wp2_with fail
              (with_reducible refine (HAW.out _).mono ?_)
              rintro e w9 ⟨rfl, q⟩
              have HBB := Lib.hid (HBB.out.keep q)
              clear q
              go_wp2
              go_returns
              exact ⟨rfl, HBB.out.bw⟩
    · cases is
      · skip
        have HE1 : Hid (∀ x, k < x → x < high → gr ⟨P, N, co, cn, cc, oo, on, oc, cs, os⟩ x = []) := Lib.hid (fun x h1 h2 => ((HY1.out (by first | rfl | trivial)).1.yes rfl).2.2 x (by omega) (by omega))
        have HHG : Hid (k < high) := Lib.hid (by have := ((HY1.out (by first | rfl | trivial)).1.yes rfl).1; omega)
        have HHR : Hid (InR high) := Lib.hid (HY1.out (by first | rfl | trivial)).2
        have hh1 : -1099511627776 ≤ high := HHR.out.1
        have hh2 : high ≤ 1099511627776 := HHR.out.2
        have hh3 := HHG.out
        clear HY1 HN1 HY2 HN2
        go_wp2
        go_loopw [10] (fun xx wr => ∃ x : Int, xx = .int .i64 x ∧ (k + 1 ≤ x ∧ x ≤ k + 40) ∧ Hid (Fbox ⟨P, N, co, cn, cc, oo, on, oc, cs, os⟩ w wr b)) (fun xx _ => (k + 41 - intOf xx).toNat)
        case atStart => exact ⟨k + 1, rfl, by omega, HBB⟩
        case round =>
          obtain ⟨x, rfl, ⟨hx1, hx2⟩, HW⟩ := hrel
          have HBB := HW
          clear HW
          by_cases c1 : x < high
          · by_cases c2 : x < k + 40
            · have HEM : Hid (gr ⟨P, N, co, cn, cc, oo, on, oc, cs, os⟩ x = []) := Lib.hid (HE1.out x (by omega) c1)
              have e0 : wr.cell? ⟨b, 0, none⟩ = some (.int .i64 P) := HBB.out.c0
              have e1 : wr.cell? ⟨b, 1, none⟩ = some (.int .i64 N) := HBB.out.c1
              have e2 : wr.cell? ⟨b, 2, none⟩ = some (.slice co cn cc) := HBB.out.c2
              have e3 : wr.cell? ⟨b, 3, none⟩ = some (.slice oo on oc) := HBB.out.c3
              go_wp2_with fail
              (with_reducible refine (HNE.out x _ HEM.out HBB.out.at_).mono ?_)
              rintro e w5 ⟨ao, c, z, rfl, q, hz⟩
              have HBB := Lib.hid (HBB.out.keep q.out)
              clear q e0 e1 e2 e3 HEM
              rcases hz with rfl | rfl <;>
              · go_wp2
                go_roundw
                case rel => exact ⟨x + 1, by go_num, by omega, HBB⟩
                case measure => simp [intOf]; omega
            · skip
              go_wp2
              go_loopw [13] (fun xx wr => xx = .int .i64 (k - 1) ∧ Hid (Fbox ⟨P, N, co, cn, cc, oo, on, oc, cs, os⟩ w wr b)) (fun _ _ => 0)
              case atStart => exact ⟨rfl, HBB⟩
              case round =>
                obtain ⟨rfl, HW⟩ := hrel
                have HBB := HW
                clear HW
                have e0 : wr.cell? ⟨b, 0, none⟩ = some (.int .i64 P) := HBB.out.c0
                have e1 : wr.cell? ⟨b, 1, none⟩ = some (.int .i64 N) := HBB.out.c1
                have e2 : wr.cell? ⟨b, 2, none⟩ = some (.slice co cn cc) := HBB.out.c2
                have e3 : wr.cell? ⟨b, 3, none⟩ = some (.slice oo on oc) := HBB.out.c3
                skip
                go_wp2_with fail
                (with_reducible refine (HBF.out high HHR.out _ HBB.out.at_).mono ?_)
                rintro e w6 ⟨⟨back, g, rfl, hy3, hn3⟩, q⟩
                have HBB := Lib.hid (HBB.out.keep q.out)
                try clear e0 e1 e2 e3
                have HY3 := Lib.hid hy3
                have HN3 := Lib.hid hn3
                clear q hy3 hn3
                have hb := HHG.out
                cases g
                · skip
                  go_wp2_with fail
                  (with_reducible refine (HAW.out _).mono ?_)
                  rintro e w9 ⟨rfl, q⟩
                  have HBB := Lib.hid (HBB.out.keep q)
                  clear q
                  go_wp2
                  go_returns
                  exact ⟨rfl, HBB.out.bw⟩
                · have hbk : back ≤ k := by
                    obtain ⟨h1, h2, h3⟩ := (HY3.out rfl).1.yes rfl
                    rcases Int.lt_or_le k back with q | q
                    · exact absurd (HE1.out back (by omega) (by omega)) h2
                    · exact q
                  go_wp2_with fail
                  (with_reducible refine (HAW.out _).mono ?_)
                  rintro e w9 ⟨rfl, q⟩
                  have HBB := Lib.hid (HBB.out.keep q)
                  clear q
                  go_wp2
                  go_returns
                  exact ⟨rfl, HBB.out.bw⟩
          · skip
            go_wp2
            go_loopw [13] (fun xx wr => xx = .int .i64 (k - 1) ∧ Hid (Fbox ⟨P, N, co, cn, cc, oo, on, oc, cs, os⟩ w wr b)) (fun _ _ => 0)
            case atStart => exact ⟨rfl, HBB⟩
            case round =>
              obtain ⟨rfl, HW⟩ := hrel
              have HBB := HW
              clear HW
              have e0 : wr.cell? ⟨b, 0, none⟩ = some (.int .i64 P) := HBB.out.c0
              have e1 : wr.cell? ⟨b, 1, none⟩ = some (.int .i64 N) := HBB.out.c1
              have e2 : wr.cell? ⟨b, 2, none⟩ = some (.slice co cn cc) := HBB.out.c2
              have e3 : wr.cell? ⟨b, 3, none⟩ = some (.slice oo on oc) := HBB.out.c3
              skip
              go_wp2_with fail
              (with_reducible refine (HBF.out high HHR.out _ HBB.out.at_).mono ?_)
              rintro e w6 ⟨⟨back, g, rfl, hy3, hn3⟩, q⟩
              have HBB := Lib.hid (HBB.out.keep q.out)
              try clear e0 e1 e2 e3
              have HY3 := Lib.hid hy3
              have HN3 := Lib.hid hn3
              clear q hy3 hn3
              have hb := HHG.out
              cases g
              · skip
                go_wp2_with fail
                (with_reducible refine (HAW.out _).mono ?_)
                rintro e w9 ⟨rfl, q⟩
                have HBB := Lib.hid (HBB.out.keep q)
                clear q
                go_wp2
                go_returns
                exact ⟨rfl, HBB.out.bw⟩
              · have hbk : back ≤ k := by
                  obtain ⟨h1, h2, h3⟩ := (HY3.out rfl).1.yes rfl
                  rcases Int.lt_or_le k back with q | q
                  · exact absurd (HE1.out back (by omega) (by omega)) h2
                  · exact q
                go_wp2_with fail
                (with_reducible refine (HAW.out _).mono ?_)
                rintro e w9 ⟨rfl, q⟩
                have HBB := Lib.hid (HBB.out.keep q)
                clear q
                go_wp2
                go_returns
                exact ⟨rfl, HBB.out.bw⟩
      · skip
        have HE1 : Hid (∀ x, k < x → x < high → gr ⟨P, N, co, cn, cc, oo, on, oc, cs, os⟩ x = []) := Lib.hid (fun x h1 h2 => ((HY1.out (by first | rfl | trivial)).1.yes rfl).2.2 x (by omega) (by omega))
        have HHG : Hid (k < high) := Lib.hid (by have := ((HY1.out (by first | rfl | trivial)).1.yes rfl).1; omega)
        have HHR : Hid (InR high) := Lib.hid (HY1.out (by first | rfl | trivial)).2
        have hh1 : -1099511627776 ≤ high := HHR.out.1
        have hh2 : high ≤ 1099511627776 := HHR.out.2
        have hh3 := HHG.out
        have HE2 : Hid (∀ x, x < k → low < x → gr ⟨P, N, co, cn, cc, oo, on, oc, cs, os⟩ x = []) := Lib.hid (fun x h1 h2 => ((HY2.out (by first | rfl | trivial)).1.yes rfl).2.2 x (by omega) (by omega))
        have HLG : Hid (low < k ∧ gr ⟨P, N, co, cn, cc, oo, on, oc, cs, os⟩ low ≠ [] ∧ InR low) := Lib.hid (by obtain ⟨h1, h2, h3⟩ := (HY2.out (by first | rfl | trivial)).1.yes rfl; exact ⟨by omega, h2, (HY2.out (by first | rfl | trivial)).2⟩)
        have hl1 : -1099511627776 ≤ low := HLG.out.2.2.1
        have hl2 : low ≤ 1099511627776 := HLG.out.2.2.2
        have hl3 := HLG.out.1
        clear HY1 HN1 HY2 HN2
        go_wp2
        go_loopw [10] (fun xx wr => ∃ x : Int, xx = .int .i64 x ∧ (k + 1 ≤ x ∧ x ≤ k + 40) ∧ Hid (Fbox ⟨P, N, co, cn, cc, oo, on, oc, cs, os⟩ w wr b)) (fun xx _ => (k + 41 - intOf xx).toNat)
        case atStart => exact ⟨k + 1, rfl, by omega, HBB⟩
        case round =>
          obtain ⟨x, rfl, ⟨hx1, hx2⟩, HW⟩ := hrel
          have HBB := HW
          clear HW
          by_cases c1 : x < high
          · by_cases c2 : x < k + 40
            · have HEM : Hid (gr ⟨P, N, co, cn, cc, oo, on, oc, cs, os⟩ x = []) := Lib.hid (HE1.out x (by omega) c1)
              have e0 : wr.cell? ⟨b, 0, none⟩ = some (.int .i64 P) := HBB.out.c0
              have e1 : wr.cell? ⟨b, 1, none⟩ = some (.int .i64 N) := HBB.out.c1
              have e2 : wr.cell? ⟨b, 2, none⟩ = some (.slice co cn cc) := HBB.out.c2
              have e3 : wr.cell? ⟨b, 3, none⟩ = some (.slice oo on oc) := HBB.out.c3
              go_wp2_with fail
              (with_reducible refine (HNE.out x _ HEM.out HBB.out.at_).mono ?_)
              rintro e w5 ⟨ao, c, z, rfl, q, hz⟩
              have HBB := Lib.hid (HBB.out.keep q.out)
              clear q e0 e1 e2 e3 HEM
              rcases hz with rfl | rfl <;>
              · go_wp2
                go_roundw
                case rel => exact ⟨x + 1, by go_num, by omega, HBB⟩
                case measure => simp [intOf]; omega
            · skip
              go_wp2
              go_loopw [13] (fun xx wr => ∃ x : Int, xx = .int .i64 x ∧ (x ≤ k - 1 ∧ k - 40 ≤ x) ∧ Hid (Fbox ⟨P, N, co, cn, cc, oo, on, oc, cs, os⟩ w wr b)) (fun xx _ => (intOf xx + 41 - k).toNat)
              case atStart => exact ⟨k - 1, rfl, by omega, HBB⟩
              case round =>
                obtain ⟨x, rfl, ⟨hx1, hx2⟩, HW⟩ := hrel
                have HBB := HW
                clear HW
                by_cases c1 : low < x
                · by_cases c2 : k - 40 < x
                  · have HEM : Hid (gr ⟨P, N, co, cn, cc, oo, on, oc, cs, os⟩ x = []) := Lib.hid (HE2.out x (by omega) c1)
                    have e0 : wr.cell? ⟨b, 0, none⟩ = some (.int .i64 P) := HBB.out.c0
                    have e1 : wr.cell? ⟨b, 1, none⟩ = some (.int .i64 N) := HBB.out.c1
                    have e2 : wr.cell? ⟨b, 2, none⟩ = some (.slice co cn cc) := HBB.out.c2
                    have e3 : wr.cell? ⟨b, 3, none⟩ = some (.slice oo on oc) := HBB.out.c3
                    go_wp2_with fail
                    (with_reducible refine (HNE.out x _ HEM.out HBB.out.at_).mono ?_)
                    rintro e w5 ⟨ao, c, z, rfl, q, hz⟩
                    have HBB := Lib.hid (HBB.out.keep q.out)
                    clear q e0 e1 e2 e3 HEM
                    rcases hz with rfl | rfl <;>
                    · go_wp2
                      go_roundw
                      case rel => exact ⟨x - 1, by go_num, by omega, HBB⟩
                      case measure => simp [intOf]; omega
                  · skip
                    have e0 : wr.cell? ⟨b, 0, none⟩ = some (.int .i64 P) := HBB.out.c0
                    have e1 : wr.cell? ⟨b, 1, none⟩ = some (.int .i64 N) := HBB.out.c1
                    have e2 : wr.cell? ⟨b, 2, none⟩ = some (.slice co cn cc) := HBB.out.c2
                    have e3 : wr.cell? ⟨b, 3, none⟩ = some (.slice oo on oc) := HBB.out.c3
                    skip
                    go_wp2_with fail
                    (with_reducible refine (HBF.out high HHR.out _ HBB.out.at_).mono ?_)
                    rintro e w6 ⟨⟨back, g, rfl, hy3, hn3⟩, q⟩
                    have HBB := Lib.hid (HBB.out.keep q.out)
                    try clear e0 e1 e2 e3
                    have HY3 := Lib.hid hy3
                    have HN3 := Lib.hid hn3
                    clear q hy3 hn3
                    have hb := HHG.out
                    cases g
                    · have h1 := HN3.out rfl low (by have := HLG.out.1; omega) HLG.out.2.2
                      exact absurd h1 HLG.out.2.1
                    · have hbk : back ≤ k := by
                        obtain ⟨h1, h2, h3⟩ := (HY3.out rfl).1.yes rfl
                        rcases Int.lt_or_le k back with q | q
                        · exact absurd (HE1.out back (by omega) (by omega)) h2
                        · exact q
                      have hlb : low ≤ back := by
                        obtain ⟨h1, h2, h3⟩ := (HY3.out rfl).1.yes rfl
                        have h4 := HLG.out.1
                        rcases Int.lt_or_le back low with q | q
                        · exact absurd (h3 low (by omega) (by omega)) HLG.out.2.1
                        · exact q
                      go_wp2_with fail
                      (with_reducible refine (HAW.out _).mono ?_)
                      rintro e w9 ⟨rfl, q⟩
                      have HBB := Lib.hid (HBB.out.keep q)
                      clear q
                      go_wp2
                      go_returns
                      exact ⟨rfl, HBB.out.bw⟩
                · skip
                  have e0 : wr.cell? ⟨b, 0, none⟩ = some (.int .i64 P) := HBB.out.c0
                  have e1 : wr.cell? ⟨b, 1, none⟩ = some (.int .i64 N) := HBB.out.c1
                  have e2 : wr.cell? ⟨b, 2, none⟩ = some (.slice co cn cc) := HBB.out.c2
                  have e3 : wr.cell? ⟨b, 3, none⟩ = some (.slice oo on oc) := HBB.out.c3
                  skip
                  go_wp2_with fail
                  (with_reducible refine (HBF.out high HHR.out _ HBB.out.at_).mono ?_)
                  rintro e w6 ⟨⟨back, g, rfl, hy3, hn3⟩, q⟩
                  have HBB := Lib.hid (HBB.out.keep q.out)
                  try clear e0 e1 e2 e3
                  have HY3 := Lib.hid hy3
                  have HN3 := Lib.hid hn3
                  clear q hy3 hn3
                  have hb := HHG.out
                  cases g
                  · have h1 := HN3.out rfl low (by have := HLG.out.1; omega) HLG.out.2.2
                    exact absurd h1 HLG.out.2.1
                  · have hbk : back ≤ k := by
                      obtain ⟨h1, h2, h3⟩ := (HY3.out rfl).1.yes rfl
                      rcases Int.lt_or_le k back with q | q
                      · exact absurd (HE1.out back (by omega) (by omega)) h2
                      · exact q
                    have hlb : low ≤ back := by
                      obtain ⟨h1, h2, h3⟩ := (HY3.out rfl).1.yes rfl
                      have h4 := HLG.out.1
                      rcases Int.lt_or_le back low with q | q
                      · exact absurd (h3 low (by omega) (by omega)) HLG.out.2.1
                      · exact q
                    go_wp2_with fail
                    (with_reducible refine (HAW.out _).mono ?_)
                    rintro e w9 ⟨rfl, q⟩
                    have HBB := Lib.hid (HBB.out.keep q)
                    clear q
                    go_wp2
                    go_returns
                    exact ⟨rfl, HBB.out.bw⟩
          · skip
            go_wp2
            go_loopw [13] (fun xx wr => ∃ x : Int, xx = .int .i64 x ∧ (x ≤ k - 1 ∧ k - 40 ≤ x) ∧ Hid (Fbox ⟨P, N, co, cn, cc, oo, on, oc, cs, os⟩ w wr b)) (fun xx _ => (intOf xx + 41 - k).toNat)
            case atStart => exact ⟨k - 1, rfl, by omega, HBB⟩
            case round =>
              obtain ⟨x, rfl, ⟨hx1, hx2⟩, HW⟩ := hrel
              have HBB := HW
              clear HW
              by_cases c1 : low < x
              · by_cases c2 : k - 40 < x
                · have HEM : Hid (gr ⟨P, N, co, cn, cc, oo, on, oc, cs, os⟩ x = []) := Lib.hid (HE2.out x (by omega) c1)
                  have e0 : wr.cell? ⟨b, 0, none⟩ = some (.int .i64 P) := HBB.out.c0
                  have e1 : wr.cell? ⟨b, 1, none⟩ = some (.int .i64 N) := HBB.out.c1
                  have e2 : wr.cell? ⟨b, 2, none⟩ = some (.slice co cn cc) := HBB.out.c2
                  have e3 : wr.cell? ⟨b, 3, none⟩ = some (.slice oo on oc) := HBB.out.c3
                  go_wp2_with fail
                  (with_reducible refine (HNE.out x _ HEM.out HBB.out.at_).mono ?_)
                  rintro e w5 ⟨ao, c, z, rfl, q, hz⟩
                  have HBB := Lib.hid (HBB.out.keep q.out)
                  clear q e0 e1 e2 e3 HEM
                  rcases hz with rfl | rfl <;>
                  · go_wp2
                    go_roundw
                    case rel => exact ⟨x - 1, by go_num, by omega, HBB⟩
                    case measure => simp [intOf]; omega
                · skip
                  have e0 : wr.cell? ⟨b, 0, none⟩ = some (.int .i64 P) := HBB.out.c0
                  have e1 : wr.cell? ⟨b, 1, none⟩ = some (.int .i64 N) := HBB.out.c1
                  have e2 : wr.cell? ⟨b, 2, none⟩ = some (.slice co cn cc) := HBB.out.c2
                  have e3 : wr.cell? ⟨b, 3, none⟩ = some (.slice oo on oc) := HBB.out.c3
                  skip
                  go_wp2_with fail
                  (with_reducible refine (HBF.out high HHR.out _ HBB.out.at_).mono ?_)
                  rintro e w6 ⟨⟨back, g, rfl, hy3, hn3⟩, q⟩
                  have HBB := Lib.hid (HBB.out.keep q.out)
                  try clear e0 e1 e2 e3
                  have HY3 := Lib.hid hy3
                  have HN3 := Lib.hid hn3
                  clear q hy3 hn3
                  have hb := HHG.out
                  cases g
                  · have h1 := HN3.out rfl low (by have := HLG.out.1; omega) HLG.out.2.2
                    exact absurd h1 HLG.out.2.1
                  · have hbk : back ≤ k := by
                      obtain ⟨h1, h2, h3⟩ := (HY3.out rfl).1.yes rfl
                      rcases Int.lt_or_le k back with q | q
                      · exact absurd (HE1.out back (by omega) (by omega)) h2
                      · exact q
                    have hlb : low ≤ back := by
                      obtain ⟨h1, h2, h3⟩ := (HY3.out rfl).1.yes rfl
                      have h4 := HLG.out.1
                      rcases Int.lt_or_le back low with q | q
                      · exact absurd (h3 low (by omega) (by omega)) HLG.out.2.1
                      · exact q
                    go_wp2_with fail
                    (with_reducible refine (HAW.out _).mono ?_)
                    rintro e w9 ⟨rfl, q⟩
                    have HBB := Lib.hid (HBB.out.keep q)
                    clear q
                    go_wp2
                    go_returns
                    exact ⟨rfl, HBB.out.bw⟩
              · skip
                have e0 : wr.cell? ⟨b, 0, none⟩ = some (.int .i64 P) := HBB.out.c0
                have e1 : wr.cell? ⟨b, 1, none⟩ = some (.int .i64 N) := HBB.out.c1
                have e2 : wr.cell? ⟨b, 2, none⟩ = some (.slice co cn cc) := HBB.out.c2
                have e3 : wr.cell? ⟨b, 3, none⟩ = some (.slice oo on oc) := HBB.out.c3
                skip
                go_wp2_with fail
                (with_reducible refine (HBF.out high HHR.out _ HBB.out.at_).mono ?_)
                rintro e w6 ⟨⟨back, g, rfl, hy3, hn3⟩, q⟩
                have HBB := Lib.hid (HBB.out.keep q.out)
                try clear e0 e1 e2 e3
                have HY3 := Lib.hid hy3
                have HN3 := Lib.hid hn3
                clear q hy3 hn3
                have hb := HHG.out
                cases g
                · have h1 := HN3.out rfl low (by have := HLG.out.1; omega) HLG.out.2.2
                  exact absurd h1 HLG.out.2.1
                · have hbk : back ≤ k := by
                    obtain ⟨h1, h2, h3⟩ := (HY3.out rfl).1.yes rfl
                    rcases Int.lt_or_le k back with q | q
                    · exact absurd (HE1.out back (by omega) (by omega)) h2
                    · exact q
                  have hlb : low ≤ back := by
                    obtain ⟨h1, h2, h3⟩ := (HY3.out rfl).1.yes rfl
                    have h4 := HLG.out.1
                    rcases Int.lt_or_le back low with q | q
                    · exact absurd (h3 low (by omega) (by omega)) HLG.out.2.1
                    · exact q
                  go_wp2_with fail
                  (with_reducible refine (HAW.out _).mono ?_)
                  rintro e w9 ⟨rfl, q⟩
                  have HBB := Lib.hid (HBB.out.keep q)
                  clear q
                  go_wp2
                  go_returns
                  exact ⟨rfl, HBB.out.bw⟩
end Go.Proofs.Ytijpejjkbioekaa
