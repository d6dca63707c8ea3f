/- Contracts: listed. -/
import Derived.Test.YtacpcokmgahjaaaDoorG2
import Derived.KernelRfl
namespace Go.Proofs.YtacpcokmgahjaaaDoor
set_option linter.unusedVariables false
set_option linter.unusedSimpArgs false
open Go.ChangeShapes Go.WideShapes Go.ChangeAt Go.RowKit
theorem wrong_any (ao : Option Addr) (n c : Nat) (l : List Sp) (w : World) (hl : SpAt w ao n c l) (r : Bool) (hr : r = true ↔ Good l) :
    Calls Tryd.prog 50 #[.slice ao n c] w fun e w' => e = .returned (.bool (!r)) ∧ Below w.heap.size w w' := by
  have K := Lib.hid (right_any ao n c l w hl r hr)
  clear hr hl
  cases r <;>
  · go_enter Tryd.func50, Tryd.ntmps50
    go_wp2_with fail
    (with_reducible refine K.out.mono ?_)
    rintro e w1 ⟨rfl, q⟩
    go_wp2
    go_returns
    exact ⟨rfl, q⟩
set_option maxHeartbeats 1000000 in
theorem index_any (co : Option Addr) (cn cc : Nat) (cs : List (List Sp)) (w : World) (hc : CoAt w co cn cc cs) :
    Calls Tryd.prog 88 #[.slice co cn cc, .func (.func 50) #[] #[]] w fun e w' => ∃ k : Int, e = .returned (.int .i64 k) ∧ Hid ((k < 0 ∧ ∀ l ∈ cs, Good l) ∨ (0 ≤ k ∧ ¬ ∀ l ∈ cs, Good l)) ∧ Below w.heap.size w w' := by
  have HC := Lib.hid hc
  have LC := Lib.hid hc.len
  have hmx : cn ≤ 9223372036854775807 := Nat.le_trans hc.le hc.top
  clear hc
  go_enter Tryd.func88, Tryd.ntmps88
  go_wp2
  go_loopw [8] (fun ii wr => ∃ i : Nat, i ≤ cn ∧ ii = .int .i64 i ∧ Hid (∀ l ∈ cs.take i, Good l) ∧ Hid (Below w.heap.size w wr)) (fun ii _ => cn - (intOf ii).toNat)
  case atStart => exact ⟨0, Nat.zero_le _, rfl, Lib.hid (fun l h => by cases h), Lib.hid (Below.refl _ _)⟩
  case round =>
    obtain ⟨i, hi, rfl, HG, HW⟩ := hrel
    by_cases ilt : i < cn
    · have HCW := HC.out.keep HW.out
      obtain ⟨g, p, rfl, hc⟩ := HCW.here (by omega)
      have hil : i < cs.length := by rw [LC.out]; exact ilt
      obtain ⟨o, m, d, d1, d2⟩ := hc i hil
      obtain ⟨r, hr⟩ : ∃ r : Bool, r = true ↔ Good cs[i] := by classical exact ⟨decide _, decide_eq_true_iff⟩
      have HD := Lib.hid (fun W (h : Below wr.heap.size wr W) => wrong_any o m d cs[i] W (d2.keep h) r hr)
      have i0 : (0 : Int) ≤ (i : Int) := by omega
      have i1 : (i : Int) < (cn : Int) := by omega
      have HI := Lib.hid hil
      have HM := Lib.hid (List.getElem_mem hil)
      have HR := Lib.hid hr
      have HTS := Lib.hid (List.take_succ_eq_append_getElem hil)
      clear hc d2 hr HCW
      cases r
      · have HNO : Hid (¬ ∀ l ∈ cs, Good l) := Lib.hid (fun h => by have := HR.out.2 (h _ HM.out); cases this)
        clear HR HM HTS
        clear hil
        go_wp2_with fail
        (with_reducible refine (HD.out _ (Below.refl _ _)).mono ?_)
        rintro e w2 ⟨rfl, q⟩
        have HW2 := Lib.hid (HW.out.trans (q.mono HW.out.size))
        go_wp2
        go_returns
        exact ⟨_, rfl, Lib.hid (.inr ⟨by omega, HNO.out⟩), HW2.out⟩
      · have HG2 : Hid (∀ l ∈ cs.take (i + 1), Good l) := Lib.hid (fun l hl => by
          rw [HTS.out] at hl
          rcases List.mem_append.1 hl with h | h
          · exact HG.out l h
          · rw [List.mem_singleton.1 h]; exact HR.out.1 rfl)
        clear HR HM HTS
        clear hil
        go_wp2_with fail
        (with_reducible refine (HD.out _ (Below.refl _ _)).mono ?_)
        rintro e w2 ⟨rfl, q⟩
        have HW2 := Lib.hid (HW.out.trans (q.mono HW.out.size))
        go_wp2
        go_roundw
        case rel => exact ⟨i + 1, by omega, by go_num, HG2, HW2⟩
        case measure => simp [intOf]; omega
    · obtain rfl : cn = i := by omega
      have HA : Hid (∀ l ∈ cs, Good l) := Lib.hid (by
        have h := HG.out
        rw [List.take_of_length_le (by rw [LC.out]; exact Nat.le_refl _)] at h
        exact h)
      go_wp2
      go_returns
      exact ⟨_, rfl, Lib.hid (.inl ⟨by omega, HA.out⟩), HW.out⟩
theorem contains_any (co : Option Addr) (cn cc : Nat) (cs : List (List Sp)) (w : World) (hc : CoAt w co cn cc cs) (r : Bool) (hr : r = true ↔ ∀ l ∈ cs, Good l) :
    Calls Tryd.prog 52 #[.slice co cn cc, .func (.func 50) #[] #[]] w fun e w' => e = .returned (.bool (!r)) ∧ Below w.heap.size w w' := by
  have K := Lib.hid (index_any co cn cc cs w hc)
  have HR := Lib.hid hr
  clear hc hr
  go_enter Tryd.func52, Tryd.ntmps52
  go_wp2_with fail
  (with_reducible refine K.out.mono ?_)
  rintro e w1 ⟨k, rfl, HK, q⟩
  rcases HK.out with ⟨h1, h2⟩ | ⟨h1, h2⟩
  · have HE : Hid (r = true) := Lib.hid (HR.out.2 h2)
    have t1 : ¬ 0 ≤ k := by omega
    clear h2 HK
    go_wp2
    go_returns
    exact ⟨ret_bool (by rw [HE.out]; (first | done | (simp; done) | (simp; omega))), q⟩
  · have HE : Hid (r = false) := Lib.hid (by cases r; rfl; exact absurd (HR.out.1 rfl) h2)
    clear h2 HK
    go_wp2
    go_returns
    exact ⟨ret_bool (by rw [HE.out]; (first | done | (simp; done) | (simp; omega))), q⟩
end Go.Proofs.YtacpcokmgahjaaaDoor
