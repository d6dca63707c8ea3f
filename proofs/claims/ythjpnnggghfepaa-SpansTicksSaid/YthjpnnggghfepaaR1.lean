/- Contracts: the document's Count and in. -/
import Derived.Test.YthjpnnggghfepaaS8
namespace Go.Proofs.Ythjpnnggghfepaa
set_option linter.unusedVariables false
set_option linter.unusedSimpArgs false
open Go.ChangeShapes Go.WideShapes Go.ChangeAt Go.RowKit
set_option maxHeartbeats 1000000 in
theorem refCount_any (ao : Option Addr) (n c : Nat) (l : List Sp) (w : World) (hw : SpAt w ao n c l) (hg : Good l) :
    Calls Try.prog 29 #[.slice ao n c] w fun e w' => e = .returned (.int .i64 (count l)) ∧ Below w.heap.size w w' := by
  have HW := Lib.hid hw
  have HG := Lib.hid hg
  have hmx : n ≤ 9223372036854775807 := Nat.le_trans hw.le hw.top
  have LN := Lib.hid hw.len
  clear hw hg
  go_enter Try.func29, Try.ntmps29
  go_wp2
  go_loopw [3, 4] (fun nn ii wr => ∃ i : Nat, i ≤ n ∧ ii = .int .i64 i ∧ nn = .int .i64 (count (l.take i)) ∧ Hid (Below w.heap.size w wr)) (fun _ ii _ => n - (intOf ii).toNat)
  case atStart => exact ⟨0, Nat.zero_le _, rfl, rfl, Lib.hid (Below.refl _ _)⟩
  case round =>
    obtain ⟨i, hi, rfl, rfl, HB⟩ := hrel
    by_cases ilt : i < n
    · obtain ⟨g, p, rfl, hc⟩ := HW.out.here (by omega)
      have hil : i < l.length := by rw [LN.out]; exact ilt
      have c1 := cell_keep (hc i hil).1 HB.out
      have c2 := cell_keep (hc i hil).2 HB.out
      have HT : Hid (count (l.take (i + 1)) = count (l.take i) + (l[i].2 - l[i].1 + 1)) := Lib.hid (by rw [List.take_succ_eq_append_getElem hil, count_snoc])
      have b1 := good_at HG.out i hil
      have b2 := count_le (rt_take HG.out i)
      have b3 := nxt_take HG.out i
      obtain ⟨s, hs⟩ : ∃ q, l[i] = q := ⟨_, rfl⟩
      rw [hs] at c1 c2 HT b1
      obtain ⟨x, y⟩ := s
      simp only at c1 c2 HT b1
      obtain ⟨C, hC⟩ : ∃ q, count (l.take i) = q := ⟨_, rfl⟩
      rw [hC] at HT b2
      rw [hC]
      obtain ⟨N, hN⟩ : ∃ q, nxt (-1099511627776) (l.take i) = q := ⟨_, rfl⟩
      rw [hN] at b2 b3
      obtain ⟨b1a, b1b, b1c⟩ := b1
      obtain ⟨b2a, b2b, _⟩ := b2
      have i0 : (0 : Int) ≤ (i : Int) := by omega
      have i1 : (i : Int) < (n : Int) := by omega
      have u1 : C ≤ 2199023255556 := by omega
      have e1 : IntKind.i64.wrap (C + y) = C + y := IntWalk.i64_in _ (by omega)
      have e2 : IntKind.i64.wrap (C + y - x) = C + y - x := IntWalk.i64_in _ (by omega)
      have e3 : IntKind.i64.wrap (C + y - x + 1) = C + y - x + 1 := IntWalk.i64_in _ (by omega)
      clear hc hs hC hN b2b b3
      go_upto_region 5 with fail
      go_quiet (fail)
      clear e1 e2 e3
      go_wp2
      go_roundw
      case rel => exact ⟨i + 1, by omega, by go_num, by rw [HT.out]; go_num, Lib.hid (below_drewN HB.out _)⟩
      case measure => simp [intOf]; omega
    · have HT : Hid (l.take i = l) := Lib.hid (List.take_of_length_le (by rw [LN.out]; omega))
      rw [HT.out]
      go_wp2
      go_returns
      exact ⟨rfl, HB.out⟩
/-- The document's in, of a kind. -/
def inB (k : Int) (p q : Bool) : Bool := if k = 1 then p || q else if k = 2 then p && q else p && !q
theorem in_any (k : Int) (p q : Bool) (w : World) : Calls Try.prog 42 #[.int .i64 k, .bool p, .bool q] w fun e w' => e = .returned (.bool (inB k p q)) ∧ w = w' := by
  by_cases h1 : k = 1
  · subst h1
    cases p <;> cases q <;> (go_enter Try.func42, Try.ntmps42; go_wp2; go_returns; exact ⟨rfl, rfl⟩)
  · have t1 : (k == 1) = false := by simp; exact h1
    by_cases h2 : k = 2
    · subst h2
      clear h1
      cases p <;> cases q <;> (go_enter Try.func42, Try.ntmps42; go_wp2; go_returns; exact ⟨rfl, rfl⟩)
    · have t2 : (k == 2) = false := by simp; exact h2
      have e : ∀ p q, inB k p q = (p && !q) := fun p q => by unfold inB; rw [if_neg h1, if_neg h2]
      have HE := Lib.hid e
      clear e h1 h2
      cases p <;> cases q <;> (go_enter Try.func42, Try.ntmps42; go_wp2; go_returns; exact ⟨by rw [HE.out]; rfl, rfl⟩)
end Go.Proofs.Ythjpnnggghfepaa
