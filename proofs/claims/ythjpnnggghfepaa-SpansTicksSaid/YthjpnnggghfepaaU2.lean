/- Contracts: the reference's Ahead. -/
import Derived.Test.YthjpnnggghfepaaS6
namespace Go.Proofs.Ythjpnnggghfepaa
set_option linter.unusedVariables false
set_option linter.unusedSimpArgs false
open Go.ChangeShapes Go.WideShapes Go.ChangeAt Go.RowKit
theorem mem_take_succ {a : List Sp} {i : Nat} (h : i < a.length) {s : Sp} : s ∈ a.take (i + 1) ↔ s ∈ a.take i ∨ s = a[i] := by
  rw [List.take_succ_eq_append_getElem h, List.mem_append, List.mem_singleton]
set_option maxHeartbeats 1000000 in
theorem refAhead_any (ao bo : Option Addr) (n c m d : Nat) (a b : List Sp) (w : World) (ha : SpAt w ao n c a) (hb : SpAt w bo m d b) (r : Bool) (hr : r = true ↔ ∀ s ∈ a, ∀ u ∈ b, s.2 < u.1) :
    Calls Try.prog 26 #[.slice ao n c, .slice bo m d] w fun e w' => e = .returned (.bool r) ∧ Below w.heap.size w w' := by
  have HA := Lib.hid ha
  have HB := Lib.hid hb
  have HR := Lib.hid hr
  have hmx : n ≤ 9223372036854775807 := Nat.le_trans ha.le ha.top
  have hmy : m ≤ 9223372036854775807 := Nat.le_trans hb.le hb.top
  have LA := Lib.hid ha.len
  have LB := Lib.hid hb.len
  clear ha hb hr
  go_enter Try.func26, Try.ntmps26
  go_wp2
  go_loopw [5] (fun ii wr => ∃ i : Nat, i ≤ n ∧ ii = .int .i64 i ∧ Hid (∀ s ∈ a.take i, ∀ u ∈ b, s.2 < u.1) ∧ Hid (Below w.heap.size w wr)) (fun ii _ => n - (intOf ii).toNat)
  case atStart => exact ⟨0, Nat.zero_le _, rfl, Lib.hid (fun s h => by cases h), Lib.hid (Below.refl _ _)⟩
  case round =>
    obtain ⟨i, hi, rfl, HI, HW⟩ := hrel
    by_cases ilt : i < n
    · obtain ⟨x, p, rfl, hc⟩ := HA.out.here (by omega)
      have hia : i < a.length := by rw [LA.out]; exact ilt
      have c2 := cell_keep (hc i hia).2 HW.out
      have HT := Lib.hid (fun s => mem_take_succ (s := s) hia)
      have HM := Lib.hid (List.getElem_mem hia)
      clear hc
      obtain ⟨X, hX⟩ : ∃ z, a[i] = z := ⟨_, rfl⟩
      rw [hX] at c2 HT HM
      clear hX
      have i0 : (0 : Int) ≤ (i : Int) := by omega
      have i1 : (i : Int) < (n : Int) := by omega
      go_wp2
      go_loopw [6] (fun jj wi => ∃ j : Nat, j ≤ m ∧ jj = .int .i64 j ∧ Hid (∀ u ∈ b.take j, X.2 < u.1) ∧ Hid (Below wr.heap.size wr wi)) (fun jj _ => m - (intOf jj).toNat)
      case atStart => exact ⟨0, Nat.zero_le _, rfl, Lib.hid (fun s h => by cases h), Lib.hid (Below.refl _ _)⟩
      case round =>
        obtain ⟨j, hj, rfl, HJ, HWi⟩ := hrel
        have HW2 := Lib.hid (HW.out.trans (HWi.out.mono HW.out.size))
        by_cases jlt : j < m
        · obtain ⟨y, q, rfl, hd⟩ := HB.out.here (by omega)
          have hjb : j < b.length := by rw [LB.out]; exact jlt
          have d1 := cell_keep (hd j hjb).1 HW2.out
          have e2 := cell_keep c2 HWi.out
          have HS := Lib.hid (fun s => mem_take_succ (s := s) hjb)
          have HN := Lib.hid (List.getElem_mem hjb)
          clear hd
          obtain ⟨Y, hY⟩ : ∃ z, b[j] = z := ⟨_, rfl⟩
          rw [hY] at d1 HS HN
          clear hY
          have j0 : (0 : Int) ≤ (j : Int) := by omega
          have j1 : (j : Int) < (m : Int) := by omega
          by_cases h : Y.1 ≤ X.2
          · have HF : Hid (false = r) := Lib.hid (by
              cases r
              · rfl
              · exact absurd (HR.out.1 rfl _ HM.out _ HN.out) (by omega))
            go_wp2
            go_quiet (fail)
            go_wp2
            go_returns
            exact ⟨ret_bool HF.out, below_drewN HW2.out _⟩
          · have HF : Hid (∀ u ∈ b.take (j + 1), X.2 < u.1) := Lib.hid (by
              intro u hu
              rcases (HS.out u).1 hu with g | rfl
              · exact HJ.out u g
              · omega)
            go_wp2
            go_quiet (fail)
            go_wp2
            go_roundw
            case rel => exact ⟨j + 1, by omega, by go_num, HF, Lib.hid (below_drewN HWi.out _)⟩
            case measure => simp [intOf]; omega
        · have jm : j = m := by omega
          subst jm
          have HF : Hid (∀ s ∈ a.take (i + 1), ∀ u ∈ b, s.2 < u.1) := Lib.hid (by
            intro s hs u hu
            rcases (HT.out s).1 hs with g | rfl
            · exact HI.out s g u hu
            · exact HJ.out u (by rw [List.take_of_length_le (by rw [LB.out]; exact Nat.le_refl _)]; exact hu))
          go_wp2
          go_roundw
          case rel => exact ⟨i + 1, by omega, by go_num, HF, Lib.hid HW2.out⟩
          case measure => simp [intOf]; omega
    · have im : i = n := by omega
      subst im
      have HF : Hid (true = r) := Lib.hid (by
        refine (HR.out.2 (fun s hs => HI.out s ?_)).symm
        rw [List.take_of_length_le (by rw [LA.out]; exact Nat.le_refl _)]; exact hs)
      go_wp2
      go_returns
      exact ⟨ret_bool HF.out, HW.out⟩
end Go.Proofs.Ythjpnnggghfepaa
