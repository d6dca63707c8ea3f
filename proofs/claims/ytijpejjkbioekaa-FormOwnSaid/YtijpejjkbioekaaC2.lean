/- Contract: odd (the law's). -/
import Derived.Test.YtijpejjkbioekaaC1
namespace Go.Proofs.Ytijpejjkbioekaa
set_option linter.unusedVariables false
set_option linter.unusedSimpArgs false
open Go.ChangeShapes Go.WideShapes Go.ChangeAt Go.RowKit
set_option maxHeartbeats 1000000 in
theorem oddL_any (F : Fv) (i : Int) (w : World) (hF : F.At w) (r : Bool) (hr : r = true ↔ ∃ o ∈ F.os, o.1 = i) :
    Calls Try.prog 13 #[F.v, .int .i64 i] w fun e w' => e = .returned (.bool r) ∧ Below w.heap.size w w' := by
  have HR := Lib.hid hr
  clear hr
  obtain ⟨P, N, co, cn, cc, oo, on, oc, cs, os⟩ := F
  have LC : Hid (cs.length = cn) := Lib.hid hF.core.len
  have LO : Hid (os.length = on) := Lib.hid hF.odd.len
  have hmc : cn ≤ 9223372036854775807 := Nat.le_trans hF.core.le hF.core.top
  have hmo : on ≤ 9223372036854775807 := Nat.le_trans hF.odd.le hF.odd.top
  obtain ⟨b, hb⟩ : ∃ b, w.heap.size = b := ⟨_, rfl⟩
  obtain ⟨wb, hwb⟩ : ∃ wb, w.alloc (.cells #[.int .i64 P, .int .i64 N, .slice co cn cc, .slice oo on oc] 25) = wb := ⟨_, rfl⟩
  have HBB : Hid (Fbox ⟨P, N, co, cn, cc, oo, on, oc, cs, os⟩ w wb b) := Lib.hid (by rw [← hwb, ← hb]; exact fbox_new hF)
  clear hF
  show Calls Try.prog 13 #[.agg #[.int .i64 P, .int .i64 N, .slice co cn cc, .slice oo on oc], .int .i64 i] w _
  go_enter Try.func13, Try.ntmps13
  go_upto_region 1 with fail
  clear hwb hb
  have HR : Hid (r = true ↔ ∃ o ∈ os, o.1 = i) := HR
  have e3 : wb.cell? ⟨b, 3, none⟩ = some (.slice oo on oc) := HBB.out.c3
  go_wp2
  clear e3
  go_loopw [10] (fun ii wr => ∃ k : Nat, k ≤ on ∧ ii = .int .i64 k ∧ Hid (∀ j (h : j < os.length), j < k → os[j].1 ≠ i) ∧ Hid (Fbox ⟨P, N, co, cn, cc, oo, on, oc, cs, os⟩ w wr b)) (fun ii _ => on - (intOf ii).toNat)
  case atStart => exact ⟨0, Nat.zero_le _, rfl, Lib.hid (fun j _ h => absurd h (Nat.not_lt_zero _)), HBB⟩
  case round =>
    obtain ⟨k, hk, rfl, HN, HW⟩ := hrel
    by_cases klt : k < on
    · obtain ⟨g, p, rfl, hc⟩ := (show OdAt wr oo on oc os from HW.out.at_.odd).here (by omega)
      have hkl : k < os.length := by rw [LO.out]; exact klt
      obtain ⟨d1, ⟨o, m, d, d2, d3⟩, d4, d5⟩ := hc k hkl
      have HY : Hid (os[k].1 = i → true = r) := Lib.hid (fun e => (HR.out.2 ⟨_, List.getElem_mem hkl, e⟩).symm)
      have HX : Hid (os[k].1 ≠ i → ∀ j (h : j < os.length), j < k + 1 → os[j].1 ≠ i) := Lib.hid (fun e j hj q => by
        by_cases z : j = k
        · subst z; exact e
        · exact HN.out j hj (by omega))
      obtain ⟨X, hX⟩ : ∃ q, os[k].1 = q := ⟨_, rfl⟩
      rw [hX] at d1 d4 d5 HY HX
      have i0 : (0 : Int) ≤ (k : Int) := by omega
      have i1 : (k : Int) < (on : Int) := by omega
      have HW2 := Lib.hid (HW.out.keep ((Below.refl _ wr).alloc (Nat.le_refl _) (.cells #[.int .i64 X, .slice o m d] 45)))
      have f1 := (box_cells wr (.int .i64 X) (.slice o m d) 45).1
      clear hc d3 hX HN
      clear hkl
      by_cases e : X = i
      · have t1 : (X == i) = true := by simp; exact e
        have HE := Lib.hid (HY.out e)
        clear e HY HX
        go_wp2
        go_returns
        exact ⟨ret_bool HE.out, HW2.out.bw⟩
      · have t1 : (X == i) = false := by simp; exact e
        have HE := Lib.hid (HX.out e)
        clear e HY HX
        go_wp2
        go_roundw
        case rel => exact ⟨k + 1, by omega, by go_num, HE, HW2⟩
        case measure => simp [intOf]; omega
    · obtain rfl : on = k := by omega
      have HE : Hid (false = r) := Lib.hid (by
        cases r
        · rfl
        · obtain ⟨o, ho, e⟩ := HR.out.1 rfl
          obtain ⟨j, hj, rfl⟩ := List.getElem_of_mem ho
          exact absurd e (HN.out j hj (by rw [← LO.out]; exact hj)))
      go_wp2
      go_returns
      exact ⟨ret_bool HE.out, HW.out.bw⟩
end Go.Proofs.Ytijpejjkbioekaa
