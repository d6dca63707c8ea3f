/- R5 in one. -/
import Derived.Test.YtllhcpkpbipjlaaDoorKu
namespace Go.Proofs.YtllhcpkpbipjlaaDoor
set_option linter.unusedVariables false
set_option linter.unusedSimpArgs false
open Go.ChangeShapes Go.WideShapes Go.ChangeAt Go.RowKit
section
attribute [local go_sem] ba4_0
attribute [local go_sem] ba4_1
attribute [local go_sem] ba4_2
attribute [local go_sem] ba4_3
attribute [local go_sem] ba6_0
attribute [local go_sem] ba6_1
attribute [local go_sem] ba6_2
attribute [local go_sem] ba6_3
attribute [local go_sem] ba6_4
attribute [local go_sem] ba6_5
attribute [local go_sem] u8_45 u8_48 u8_87
set_option maxHeartbeats 4000000 in
theorem rnumber (a b c d : UInt8) (v : Int) (hv : (fitY a b c d ∧ valY a b c d = v) ∨ (¬ fitY a b c d ∧ -1 = v)) (w : World) :
    Calls Tryd.prog 66 #[.string ⟨#[a, b, c, d]⟩] w fun e w' => e = .returned (.int .i64 v) ∧ w = w' := by
  have HV := Lib.hid hv
  clear hv
  go_enter Tryd.func66, Tryd.ntmps66
  go_wp2
  go_loopw [3, 4] (fun nn ii wr => wr = w ∧ ((ii = .int .i64 0 ∧ nn = .int .i64 0) ∨ (ii = .int .i64 1 ∧ nn = .int .i64 ((a.toNat : Int) - 48) ∧ 48 ≤ (a.toNat : Int) ∧ (a.toNat : Int) ≤ 57) ∨ (ii = .int .i64 2 ∧ nn = .int .i64 ((((a.toNat : Int) - 48)) * 10 + ((b.toNat : Int) - 48)) ∧ 48 ≤ (a.toNat : Int) ∧ (a.toNat : Int) ≤ 57 ∧ 48 ≤ (b.toNat : Int) ∧ (b.toNat : Int) ≤ 57) ∨ (ii = .int .i64 3 ∧ nn = .int .i64 ((((((a.toNat : Int) - 48)) * 10 + ((b.toNat : Int) - 48))) * 10 + ((c.toNat : Int) - 48)) ∧ 48 ≤ (a.toNat : Int) ∧ (a.toNat : Int) ≤ 57 ∧ 48 ≤ (b.toNat : Int) ∧ (b.toNat : Int) ≤ 57 ∧ 48 ≤ (c.toNat : Int) ∧ (c.toNat : Int) ≤ 57) ∨ (ii = .int .i64 4 ∧ nn = .int .i64 ((((((((a.toNat : Int) - 48)) * 10 + ((b.toNat : Int) - 48))) * 10 + ((c.toNat : Int) - 48))) * 10 + ((d.toNat : Int) - 48)) ∧ 48 ≤ (a.toNat : Int) ∧ (a.toNat : Int) ≤ 57 ∧ 48 ≤ (b.toNat : Int) ∧ (b.toNat : Int) ≤ 57 ∧ 48 ≤ (c.toNat : Int) ∧ (c.toNat : Int) ≤ 57 ∧ 48 ≤ (d.toNat : Int) ∧ (d.toNat : Int) ≤ 57))) (fun _ ii _ => (5 - intOf ii).toNat)
  case atStart => exact ⟨rfl, .inl ⟨rfl, rfl⟩⟩
  case round =>
    obtain ⟨rfl, hrel⟩ := hrel
    rcases hrel with ⟨rfl, rfl⟩ | ⟨rfl, rfl, p0, q0⟩ | ⟨rfl, rfl, p0, q0, p1, q1⟩ | ⟨rfl, rfl, p0, q0, p1, q1, p2, q2⟩ | ⟨rfl, rfl, p0, q0, p1, q1, p2, q2, p3, q3⟩
    · by_cases p0 : 48 ≤ (a.toNat : Int)
      · by_cases q0 : (a.toNat : Int) ≤ 57
        · go_wp2
          all_goals go_roundw
          case rel => exact ⟨trivial, .inr (.inl ⟨rfl, rfl, p0, q0⟩)⟩
          case measure => simp [intOf]
        · have r0 : 57 < (a.toNat : Int) := by omega
          have F := Lib.hid (show ¬ fitY a b c d from fun h => by unfold fitY at h; omega)
          clear q0
          go_wp2
          go_returns
          exact ⟨ret_int (HV.out.elim (fun x => absurd x.1 F.out) (fun x => x.2)), rfl⟩
      · have r0 : (a.toNat : Int) < 48 := by omega
        have F := Lib.hid (show ¬ fitY a b c d from fun h => by unfold fitY at h; omega)
        clear p0
        go_wp2
        go_returns
        exact ⟨ret_int (HV.out.elim (fun x => absurd x.1 F.out) (fun x => x.2)), rfl⟩
    · by_cases p1 : 48 ≤ (b.toNat : Int)
      · by_cases q1 : (b.toNat : Int) ≤ 57
        · go_wp2
          all_goals go_roundw
          case rel => exact ⟨trivial, .inr (.inr (.inl ⟨rfl, rfl, p0, q0, p1, q1⟩))⟩
          case measure => simp [intOf]
        · have r1 : 57 < (b.toNat : Int) := by omega
          have F := Lib.hid (show ¬ fitY a b c d from fun h => by unfold fitY at h; omega)
          clear q1
          go_wp2
          go_returns
          exact ⟨ret_int (HV.out.elim (fun x => absurd x.1 F.out) (fun x => x.2)), rfl⟩
      · have r1 : (b.toNat : Int) < 48 := by omega
        have F := Lib.hid (show ¬ fitY a b c d from fun h => by unfold fitY at h; omega)
        clear p1
        go_wp2
        go_returns
        exact ⟨ret_int (HV.out.elim (fun x => absurd x.1 F.out) (fun x => x.2)), rfl⟩
    · by_cases p2 : 48 ≤ (c.toNat : Int)
      · by_cases q2 : (c.toNat : Int) ≤ 57
        · go_wp2
          all_goals go_roundw
          case rel => exact ⟨trivial, .inr (.inr (.inr (.inl ⟨rfl, rfl, p0, q0, p1, q1, p2, q2⟩)))⟩
          case measure => simp [intOf]
        · have r2 : 57 < (c.toNat : Int) := by omega
          have F := Lib.hid (show ¬ fitY a b c d from fun h => by unfold fitY at h; omega)
          clear q2
          go_wp2
          go_returns
          exact ⟨ret_int (HV.out.elim (fun x => absurd x.1 F.out) (fun x => x.2)), rfl⟩
      · have r2 : (c.toNat : Int) < 48 := by omega
        have F := Lib.hid (show ¬ fitY a b c d from fun h => by unfold fitY at h; omega)
        clear p2
        go_wp2
        go_returns
        exact ⟨ret_int (HV.out.elim (fun x => absurd x.1 F.out) (fun x => x.2)), rfl⟩
    · by_cases p3 : 48 ≤ (d.toNat : Int)
      · by_cases q3 : (d.toNat : Int) ≤ 57
        · go_wp2
          all_goals go_roundw
          case rel => exact ⟨trivial, .inr (.inr (.inr (.inr (⟨rfl, rfl, p0, q0, p1, q1, p2, q2, p3, q3⟩))))⟩
          case measure => simp [intOf]
        · have r3 : 57 < (d.toNat : Int) := by omega
          have F := Lib.hid (show ¬ fitY a b c d from fun h => by unfold fitY at h; omega)
          clear q3
          go_wp2
          go_returns
          exact ⟨ret_int (HV.out.elim (fun x => absurd x.1 F.out) (fun x => x.2)), rfl⟩
      · have r3 : (d.toNat : Int) < 48 := by omega
        have F := Lib.hid (show ¬ fitY a b c d from fun h => by unfold fitY at h; omega)
        clear p3
        go_wp2
        go_returns
        exact ⟨ret_int (HV.out.elim (fun x => absurd x.1 F.out) (fun x => x.2)), rfl⟩
    · have F := Lib.hid (show fitY a b c d from ⟨⟨p0, q0⟩, ⟨p1, q1⟩, ⟨p2, q2⟩, ⟨p3, q3⟩⟩)
      go_wp2
      go_returns
      exact ⟨ret_int (HV.out.elim (fun x => x.2) (fun x => absurd F.out x.1)), rfl⟩
end
end Go.Proofs.YtllhcpkpbipjlaaDoor
