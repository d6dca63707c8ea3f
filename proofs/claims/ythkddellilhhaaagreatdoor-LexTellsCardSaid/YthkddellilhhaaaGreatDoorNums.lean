/- numbers at the patterns of a date's text. -/
import Derived.Test.YthkddellilhhaaaGreatDoorDate2
namespace Go.Proofs.YthkddellilhhaaaGreatDoor
set_option linter.unusedVariables false
open Go.ChangeShapes Go.WideShapes Go.ChangeAt Go.RowKit

theorem ba4_0 (a b c d : UInt8) (h : 0 < (ByteArray.mk #[a, b, c, d]).size) : (ByteArray.mk #[a, b, c, d])[0]'h = a := rfl
attribute [local go_sem] ba4_0
theorem ba4_1 (a b c d : UInt8) (h : 1 < (ByteArray.mk #[a, b, c, d]).size) : (ByteArray.mk #[a, b, c, d])[1]'h = b := rfl
attribute [local go_sem] ba4_1
theorem ba4_2 (a b c d : UInt8) (h : 2 < (ByteArray.mk #[a, b, c, d]).size) : (ByteArray.mk #[a, b, c, d])[2]'h = c := rfl
attribute [local go_sem] ba4_2
theorem ba4_3 (a b c d : UInt8) (h : 3 < (ByteArray.mk #[a, b, c, d]).size) : (ByteArray.mk #[a, b, c, d])[3]'h = d := rfl
attribute [local go_sem] ba4_3
theorem ba6_0 (a b c d f g : UInt8) (h : 0 < (ByteArray.mk #[a, b, c, d, f, g]).size) : (ByteArray.mk #[a, b, c, d, f, g])[0]'h = a := rfl
attribute [local go_sem] ba6_0
theorem ba6_1 (a b c d f g : UInt8) (h : 1 < (ByteArray.mk #[a, b, c, d, f, g]).size) : (ByteArray.mk #[a, b, c, d, f, g])[1]'h = b := rfl
attribute [local go_sem] ba6_1
theorem ba6_2 (a b c d f g : UInt8) (h : 2 < (ByteArray.mk #[a, b, c, d, f, g]).size) : (ByteArray.mk #[a, b, c, d, f, g])[2]'h = c := rfl
attribute [local go_sem] ba6_2
theorem ba6_3 (a b c d f g : UInt8) (h : 3 < (ByteArray.mk #[a, b, c, d, f, g]).size) : (ByteArray.mk #[a, b, c, d, f, g])[3]'h = d := rfl
attribute [local go_sem] ba6_3
theorem ba6_4 (a b c d f g : UInt8) (h : 4 < (ByteArray.mk #[a, b, c, d, f, g]).size) : (ByteArray.mk #[a, b, c, d, f, g])[4]'h = f := rfl
attribute [local go_sem] ba6_4
theorem ba6_5 (a b c d f g : UInt8) (h : 5 < (ByteArray.mk #[a, b, c, d, f, g]).size) : (ByteArray.mk #[a, b, c, d, f, g])[5]'h = g := rfl
attribute [local go_sem] ba6_5
theorem drewN_drewN (w : World) (n m : Nat) : (w.drewN n).drewN m = w.drewN (n + m) := by simp [World.drewN, Nat.add_assoc]
theorem u8_45 : (45 : UInt8).toNat = 45 := rfl
theorem u8_48 : (48 : UInt8).toNat = 48 := rfl
theorem u8_87 : (87 : UInt8).toNat = 87 := rfl
attribute [local go_sem] u8_45 u8_48 u8_87

def fitN (a b c d : UInt8) : Prop := ((a.toNat : Int) = 45) ∧ (48 ≤ (b.toNat : Int) ∧ (b.toNat : Int) ≤ 57) ∧ (48 ≤ (c.toNat : Int) ∧ (c.toNat : Int) ≤ 57) ∧ (48 ≤ (d.toNat : Int) ∧ (d.toNat : Int) ≤ 57)
def staN (a b c d : UInt8) (k : Nat) (x y z : Value) : Prop :=
  (k = 0 ∧ x = .int .i64 0 ∧ y = .int .i64 0 ∧ z = .int .i64 0) ∨ (k = 1 ∧ x = .int .i64 0 ∧ y = .int .i64 0 ∧ z = .int .i64 0 ∧ ((a.toNat : Int) = 45)) ∨ (k = 2 ∧ x = .int .i64 ((b.toNat : Int) - 48) ∧ y = .int .i64 ((b.toNat : Int) - 48) ∧ z = .int .i64 1 ∧ ((a.toNat : Int) = 45) ∧ (48 ≤ (b.toNat : Int) ∧ (b.toNat : Int) ≤ 57)) ∨ (k = 3 ∧ x = .int .i64 (((b.toNat : Int) - 48) * 10 + ((c.toNat : Int) - 48)) ∧ y = .int .i64 (((b.toNat : Int) - 48) * 10 + ((c.toNat : Int) - 48)) ∧ z = .int .i64 1 ∧ ((a.toNat : Int) = 45) ∧ (48 ≤ (b.toNat : Int) ∧ (b.toNat : Int) ≤ 57) ∧ (48 ≤ (c.toNat : Int) ∧ (c.toNat : Int) ≤ 57)) ∨ (k = 4 ∧ x = .int .i64 ((((b.toNat : Int) - 48) * 10 + ((c.toNat : Int) - 48)) * 10 + ((d.toNat : Int) - 48)) ∧ y = .int .i64 ((((b.toNat : Int) - 48) * 10 + ((c.toNat : Int) - 48)) * 10 + ((d.toNat : Int) - 48)) ∧ z = .int .i64 1 ∧ ((a.toNat : Int) = 45) ∧ (48 ≤ (b.toNat : Int) ∧ (b.toNat : Int) ≤ 57) ∧ (48 ≤ (c.toNat : Int) ∧ (c.toNat : Int) ≤ 57) ∧ (48 ≤ (d.toNat : Int) ∧ (d.toNat : Int) ≤ 57))
set_option maxHeartbeats 4000000 in
theorem numsN (a b c d : UInt8) (w : World) :
    Calls Tryz.prog 68 #[.string ⟨#[a, b, c, d]⟩, .string ⟨#[45, 48, 48, 48]⟩] w fun e w' => ((fitN a b c d ∧ e = .returned (.tuple #[.int .i64 ((((b.toNat : Int) - 48) * 10 + ((c.toNat : Int) - 48)) * 10 + ((d.toNat : Int) - 48)), .int .i64 ((((b.toNat : Int) - 48) * 10 + ((c.toNat : Int) - 48)) * 10 + ((d.toNat : Int) - 48)), .bool true])) ∨ (¬ fitN a b c d ∧ e = .returned (.tuple #[.int .i64 0, .int .i64 0, .bool false]))) ∧ ∃ nq, w' = w.drewN nq := by
  go_enter Tryz.func68, Tryz.ntmps68
  go_wp2
  go_loopw [7, 8, 9, 18] (fun x y z i wr => (∃ nq, wr = w.drewN nq) ∧ ∃ k : Nat, i = .int .i64 k ∧ staN a b c d k x y z) (fun _ _ _ i _ => (4 - intOf i).toNat)
  case atStart => exact ⟨⟨0, rfl⟩, 0, rfl, .inl ⟨rfl, rfl, rfl, rfl⟩⟩
  case round =>
    obtain ⟨⟨nq, rfl⟩, k, rfl, hk⟩ := hrel
    have ua := a.toNat_lt
    have ub := b.toNat_lt
    have uc := c.toNat_lt
    have ud := d.toNat_lt
    unfold staN at hk
    rcases hk with ⟨rfl, rfl, rfl, rfl⟩ | ⟨rfl, rfl, rfl, rfl, q0⟩ | ⟨rfl, rfl, rfl, rfl, q0, q1⟩ | ⟨rfl, rfl, rfl, rfl, q0, q1, q2⟩ | ⟨rfl, rfl, rfl, rfl, q0, q1, q2, q3⟩
    · by_cases q0 : ((a.toNat : Int) = 45)
      · have dd : ((a.toNat : Int) != 45) = false := by simpa using q0
        go_wp2
        go_quiet (fail)
        go_wp2
        all_goals go_roundw
        case rel => exact ⟨by first | exact ⟨_, rfl⟩ | exact ⟨_, drewN_drewN _ _ _⟩, 1, rfl, .inr (.inl ⟨rfl, rfl, rfl, rfl, q0⟩)⟩
        case measure => simp [intOf]; try omega
      · have dd : ((a.toNat : Int) != 45) = true := by simpa using q0
        go_wp2
        go_quiet (fail)
        go_wp2
        go_returns
        exact ⟨.inr ⟨fun h => by unfold fitN at h; omega, rfl⟩, by first | exact ⟨_, rfl⟩ | exact ⟨_, drewN_drewN _ _ _⟩⟩
    · by_cases q1 : (48 ≤ (b.toNat : Int) ∧ (b.toNat : Int) ≤ 57)
      · go_wp2
        all_goals go_roundw
        case rel => exact ⟨by first | exact ⟨_, rfl⟩ | exact ⟨_, drewN_drewN _ _ _⟩, 2, rfl, .inr (.inr (.inl ⟨rfl, rfl, rfl, rfl, q0, q1⟩))⟩
        case measure => simp [intOf]; try omega
      · by_cases r : (b.toNat : Int) < 48
        · clear q1
          go_wp2
          go_returns
          exact ⟨.inr ⟨fun h => by unfold fitN at h; omega, rfl⟩, by first | exact ⟨_, rfl⟩ | exact ⟨_, drewN_drewN _ _ _⟩⟩
        · have r2 : 57 < (b.toNat : Int) := by omega
          clear q1
          go_wp2
          go_returns
          exact ⟨.inr ⟨fun h => by unfold fitN at h; omega, rfl⟩, by first | exact ⟨_, rfl⟩ | exact ⟨_, drewN_drewN _ _ _⟩⟩
    · by_cases q2 : (48 ≤ (c.toNat : Int) ∧ (c.toNat : Int) ≤ 57)
      · go_wp2
        all_goals go_roundw
        case rel => exact ⟨by first | exact ⟨_, rfl⟩ | exact ⟨_, drewN_drewN _ _ _⟩, 3, rfl, .inr (.inr (.inr (.inl ⟨rfl, rfl, rfl, rfl, q0, q1, q2⟩)))⟩
        case measure => simp [intOf]; try omega
      · by_cases r : (c.toNat : Int) < 48
        · clear q2
          go_wp2
          go_returns
          exact ⟨.inr ⟨fun h => by unfold fitN at h; omega, rfl⟩, by first | exact ⟨_, rfl⟩ | exact ⟨_, drewN_drewN _ _ _⟩⟩
        · have r2 : 57 < (c.toNat : Int) := by omega
          clear q2
          go_wp2
          go_returns
          exact ⟨.inr ⟨fun h => by unfold fitN at h; omega, rfl⟩, by first | exact ⟨_, rfl⟩ | exact ⟨_, drewN_drewN _ _ _⟩⟩
    · by_cases q3 : (48 ≤ (d.toNat : Int) ∧ (d.toNat : Int) ≤ 57)
      · go_wp2
        all_goals go_roundw
        case rel => exact ⟨by first | exact ⟨_, rfl⟩ | exact ⟨_, drewN_drewN _ _ _⟩, 4, rfl, .inr (.inr (.inr (.inr (⟨rfl, rfl, rfl, rfl, q0, q1, q2, q3⟩))))⟩
        case measure => simp [intOf]; try omega
      · by_cases r : (d.toNat : Int) < 48
        · clear q3
          go_wp2
          go_returns
          exact ⟨.inr ⟨fun h => by unfold fitN at h; omega, rfl⟩, by first | exact ⟨_, rfl⟩ | exact ⟨_, drewN_drewN _ _ _⟩⟩
        · have r2 : 57 < (d.toNat : Int) := by omega
          clear q3
          go_wp2
          go_returns
          exact ⟨.inr ⟨fun h => by unfold fitN at h; omega, rfl⟩, by first | exact ⟨_, rfl⟩ | exact ⟨_, drewN_drewN _ _ _⟩⟩
    · go_wp2
      go_returns
      exact ⟨.inl ⟨⟨q0, q1, q2, q3⟩, rfl⟩, _, rfl⟩

def fitY (a b c d : UInt8) : Prop := (48 ≤ (a.toNat : Int) ∧ (a.toNat : Int) ≤ 57) ∧ (48 ≤ (b.toNat : Int) ∧ (b.toNat : Int) ≤ 57) ∧ (48 ≤ (c.toNat : Int) ∧ (c.toNat : Int) ≤ 57) ∧ (48 ≤ (d.toNat : Int) ∧ (d.toNat : Int) ≤ 57)
def staY (a b c d : UInt8) (k : Nat) (x y z : Value) : Prop :=
  (k = 0 ∧ x = .int .i64 0 ∧ y = .int .i64 0 ∧ z = .int .i64 0) ∨ (k = 1 ∧ x = .int .i64 ((a.toNat : Int) - 48) ∧ y = .int .i64 ((a.toNat : Int) - 48) ∧ z = .int .i64 1 ∧ (48 ≤ (a.toNat : Int) ∧ (a.toNat : Int) ≤ 57)) ∨ (k = 2 ∧ x = .int .i64 (((a.toNat : Int) - 48) * 10 + ((b.toNat : Int) - 48)) ∧ y = .int .i64 (((a.toNat : Int) - 48) * 10 + ((b.toNat : Int) - 48)) ∧ z = .int .i64 1 ∧ (48 ≤ (a.toNat : Int) ∧ (a.toNat : Int) ≤ 57) ∧ (48 ≤ (b.toNat : Int) ∧ (b.toNat : Int) ≤ 57)) ∨ (k = 3 ∧ x = .int .i64 ((((a.toNat : Int) - 48) * 10 + ((b.toNat : Int) - 48)) * 10 + ((c.toNat : Int) - 48)) ∧ y = .int .i64 ((((a.toNat : Int) - 48) * 10 + ((b.toNat : Int) - 48)) * 10 + ((c.toNat : Int) - 48)) ∧ z = .int .i64 1 ∧ (48 ≤ (a.toNat : Int) ∧ (a.toNat : Int) ≤ 57) ∧ (48 ≤ (b.toNat : Int) ∧ (b.toNat : Int) ≤ 57) ∧ (48 ≤ (c.toNat : Int) ∧ (c.toNat : Int) ≤ 57)) ∨ (k = 4 ∧ x = .int .i64 (((((a.toNat : Int) - 48) * 10 + ((b.toNat : Int) - 48)) * 10 + ((c.toNat : Int) - 48)) * 10 + ((d.toNat : Int) - 48)) ∧ y = .int .i64 (((((a.toNat : Int) - 48) * 10 + ((b.toNat : Int) - 48)) * 10 + ((c.toNat : Int) - 48)) * 10 + ((d.toNat : Int) - 48)) ∧ z = .int .i64 1 ∧ (48 ≤ (a.toNat : Int) ∧ (a.toNat : Int) ≤ 57) ∧ (48 ≤ (b.toNat : Int) ∧ (b.toNat : Int) ≤ 57) ∧ (48 ≤ (c.toNat : Int) ∧ (c.toNat : Int) ≤ 57) ∧ (48 ≤ (d.toNat : Int) ∧ (d.toNat : Int) ≤ 57))
set_option maxHeartbeats 4000000 in
theorem numsY (a b c d : UInt8) (w : World) :
    Calls Tryz.prog 68 #[.string ⟨#[a, b, c, d]⟩, .string ⟨#[48, 48, 48, 48]⟩] w fun e w' => ((fitY a b c d ∧ e = .returned (.tuple #[.int .i64 (((((a.toNat : Int) - 48) * 10 + ((b.toNat : Int) - 48)) * 10 + ((c.toNat : Int) - 48)) * 10 + ((d.toNat : Int) - 48)), .int .i64 (((((a.toNat : Int) - 48) * 10 + ((b.toNat : Int) - 48)) * 10 + ((c.toNat : Int) - 48)) * 10 + ((d.toNat : Int) - 48)), .bool true])) ∨ (¬ fitY a b c d ∧ e = .returned (.tuple #[.int .i64 0, .int .i64 0, .bool false]))) ∧ ∃ nq, w' = w.drewN nq := by
  go_enter Tryz.func68, Tryz.ntmps68
  go_wp2
  go_loopw [7, 8, 9, 18] (fun x y z i wr => (∃ nq, wr = w.drewN nq) ∧ ∃ k : Nat, i = .int .i64 k ∧ staY a b c d k x y z) (fun _ _ _ i _ => (4 - intOf i).toNat)
  case atStart => exact ⟨⟨0, rfl⟩, 0, rfl, .inl ⟨rfl, rfl, rfl, rfl⟩⟩
  case round =>
    obtain ⟨⟨nq, rfl⟩, k, rfl, hk⟩ := hrel
    have ua := a.toNat_lt
    have ub := b.toNat_lt
    have uc := c.toNat_lt
    have ud := d.toNat_lt
    unfold staY at hk
    rcases hk with ⟨rfl, rfl, rfl, rfl⟩ | ⟨rfl, rfl, rfl, rfl, q0⟩ | ⟨rfl, rfl, rfl, rfl, q0, q1⟩ | ⟨rfl, rfl, rfl, rfl, q0, q1, q2⟩ | ⟨rfl, rfl, rfl, rfl, q0, q1, q2, q3⟩
    · by_cases q0 : (48 ≤ (a.toNat : Int) ∧ (a.toNat : Int) ≤ 57)
      · go_wp2
        all_goals go_roundw
        case rel => exact ⟨by first | exact ⟨_, rfl⟩ | exact ⟨_, drewN_drewN _ _ _⟩, 1, rfl, .inr (.inl ⟨rfl, rfl, rfl, rfl, q0⟩)⟩
        case measure => simp [intOf]; try omega
      · by_cases r : (a.toNat : Int) < 48
        · clear q0
          go_wp2
          go_returns
          exact ⟨.inr ⟨fun h => by unfold fitY at h; omega, rfl⟩, by first | exact ⟨_, rfl⟩ | exact ⟨_, drewN_drewN _ _ _⟩⟩
        · have r2 : 57 < (a.toNat : Int) := by omega
          clear q0
          go_wp2
          go_returns
          exact ⟨.inr ⟨fun h => by unfold fitY at h; omega, rfl⟩, by first | exact ⟨_, rfl⟩ | exact ⟨_, drewN_drewN _ _ _⟩⟩
    · by_cases q1 : (48 ≤ (b.toNat : Int) ∧ (b.toNat : Int) ≤ 57)
      · go_wp2
        all_goals go_roundw
        case rel => exact ⟨by first | exact ⟨_, rfl⟩ | exact ⟨_, drewN_drewN _ _ _⟩, 2, rfl, .inr (.inr (.inl ⟨rfl, rfl, rfl, rfl, q0, q1⟩))⟩
        case measure => simp [intOf]; try omega
      · by_cases r : (b.toNat : Int) < 48
        · clear q1
          go_wp2
          go_returns
          exact ⟨.inr ⟨fun h => by unfold fitY at h; omega, rfl⟩, by first | exact ⟨_, rfl⟩ | exact ⟨_, drewN_drewN _ _ _⟩⟩
        · have r2 : 57 < (b.toNat : Int) := by omega
          clear q1
          go_wp2
          go_returns
          exact ⟨.inr ⟨fun h => by unfold fitY at h; omega, rfl⟩, by first | exact ⟨_, rfl⟩ | exact ⟨_, drewN_drewN _ _ _⟩⟩
    · by_cases q2 : (48 ≤ (c.toNat : Int) ∧ (c.toNat : Int) ≤ 57)
      · go_wp2
        all_goals go_roundw
        case rel => exact ⟨by first | exact ⟨_, rfl⟩ | exact ⟨_, drewN_drewN _ _ _⟩, 3, rfl, .inr (.inr (.inr (.inl ⟨rfl, rfl, rfl, rfl, q0, q1, q2⟩)))⟩
        case measure => simp [intOf]; try omega
      · by_cases r : (c.toNat : Int) < 48
        · clear q2
          go_wp2
          go_returns
          exact ⟨.inr ⟨fun h => by unfold fitY at h; omega, rfl⟩, by first | exact ⟨_, rfl⟩ | exact ⟨_, drewN_drewN _ _ _⟩⟩
        · have r2 : 57 < (c.toNat : Int) := by omega
          clear q2
          go_wp2
          go_returns
          exact ⟨.inr ⟨fun h => by unfold fitY at h; omega, rfl⟩, by first | exact ⟨_, rfl⟩ | exact ⟨_, drewN_drewN _ _ _⟩⟩
    · by_cases q3 : (48 ≤ (d.toNat : Int) ∧ (d.toNat : Int) ≤ 57)
      · go_wp2
        all_goals go_roundw
        case rel => exact ⟨by first | exact ⟨_, rfl⟩ | exact ⟨_, drewN_drewN _ _ _⟩, 4, rfl, .inr (.inr (.inr (.inr (⟨rfl, rfl, rfl, rfl, q0, q1, q2, q3⟩))))⟩
        case measure => simp [intOf]; try omega
      · by_cases r : (d.toNat : Int) < 48
        · clear q3
          go_wp2
          go_returns
          exact ⟨.inr ⟨fun h => by unfold fitY at h; omega, rfl⟩, by first | exact ⟨_, rfl⟩ | exact ⟨_, drewN_drewN _ _ _⟩⟩
        · have r2 : 57 < (d.toNat : Int) := by omega
          clear q3
          go_wp2
          go_returns
          exact ⟨.inr ⟨fun h => by unfold fitY at h; omega, rfl⟩, by first | exact ⟨_, rfl⟩ | exact ⟨_, drewN_drewN _ _ _⟩⟩
    · go_wp2
      go_returns
      exact ⟨.inl ⟨⟨q0, q1, q2, q3⟩, rfl⟩, _, rfl⟩

def fitD (a b c d f g : UInt8) : Prop := ((a.toNat : Int) = 45) ∧ (48 ≤ (b.toNat : Int) ∧ (b.toNat : Int) ≤ 57) ∧ (48 ≤ (c.toNat : Int) ∧ (c.toNat : Int) ≤ 57) ∧ ((d.toNat : Int) = 45) ∧ (48 ≤ (f.toNat : Int) ∧ (f.toNat : Int) ≤ 57) ∧ (48 ≤ (g.toNat : Int) ∧ (g.toNat : Int) ≤ 57)
def staD (a b c d f g : UInt8) (k : Nat) (x y z : Value) : Prop :=
  (k = 0 ∧ x = .int .i64 0 ∧ y = .int .i64 0 ∧ z = .int .i64 0) ∨ (k = 1 ∧ x = .int .i64 0 ∧ y = .int .i64 0 ∧ z = .int .i64 0 ∧ ((a.toNat : Int) = 45)) ∨ (k = 2 ∧ x = .int .i64 ((b.toNat : Int) - 48) ∧ y = .int .i64 ((b.toNat : Int) - 48) ∧ z = .int .i64 1 ∧ ((a.toNat : Int) = 45) ∧ (48 ≤ (b.toNat : Int) ∧ (b.toNat : Int) ≤ 57)) ∨ (k = 3 ∧ x = .int .i64 (((b.toNat : Int) - 48) * 10 + ((c.toNat : Int) - 48)) ∧ y = .int .i64 (((b.toNat : Int) - 48) * 10 + ((c.toNat : Int) - 48)) ∧ z = .int .i64 1 ∧ ((a.toNat : Int) = 45) ∧ (48 ≤ (b.toNat : Int) ∧ (b.toNat : Int) ≤ 57) ∧ (48 ≤ (c.toNat : Int) ∧ (c.toNat : Int) ≤ 57)) ∨ (k = 4 ∧ x = .int .i64 (((b.toNat : Int) - 48) * 10 + ((c.toNat : Int) - 48)) ∧ y = .int .i64 (((b.toNat : Int) - 48) * 10 + ((c.toNat : Int) - 48)) ∧ z = .int .i64 1 ∧ ((a.toNat : Int) = 45) ∧ (48 ≤ (b.toNat : Int) ∧ (b.toNat : Int) ≤ 57) ∧ (48 ≤ (c.toNat : Int) ∧ (c.toNat : Int) ≤ 57) ∧ ((d.toNat : Int) = 45)) ∨ (k = 5 ∧ x = .int .i64 (((b.toNat : Int) - 48) * 10 + ((c.toNat : Int) - 48)) ∧ y = .int .i64 ((f.toNat : Int) - 48) ∧ z = .int .i64 2 ∧ ((a.toNat : Int) = 45) ∧ (48 ≤ (b.toNat : Int) ∧ (b.toNat : Int) ≤ 57) ∧ (48 ≤ (c.toNat : Int) ∧ (c.toNat : Int) ≤ 57) ∧ ((d.toNat : Int) = 45) ∧ (48 ≤ (f.toNat : Int) ∧ (f.toNat : Int) ≤ 57)) ∨ (k = 6 ∧ x = .int .i64 (((b.toNat : Int) - 48) * 10 + ((c.toNat : Int) - 48)) ∧ y = .int .i64 (((f.toNat : Int) - 48) * 10 + ((g.toNat : Int) - 48)) ∧ z = .int .i64 2 ∧ ((a.toNat : Int) = 45) ∧ (48 ≤ (b.toNat : Int) ∧ (b.toNat : Int) ≤ 57) ∧ (48 ≤ (c.toNat : Int) ∧ (c.toNat : Int) ≤ 57) ∧ ((d.toNat : Int) = 45) ∧ (48 ≤ (f.toNat : Int) ∧ (f.toNat : Int) ≤ 57) ∧ (48 ≤ (g.toNat : Int) ∧ (g.toNat : Int) ≤ 57))
set_option maxHeartbeats 4000000 in
theorem numsD (a b c d f g : UInt8) (w : World) :
    Calls Tryz.prog 68 #[.string ⟨#[a, b, c, d, f, g]⟩, .string ⟨#[45, 48, 48, 45, 48, 48]⟩] w fun e w' => ((fitD a b c d f g ∧ e = .returned (.tuple #[.int .i64 (((b.toNat : Int) - 48) * 10 + ((c.toNat : Int) - 48)), .int .i64 (((f.toNat : Int) - 48) * 10 + ((g.toNat : Int) - 48)), .bool true])) ∨ (¬ fitD a b c d f g ∧ e = .returned (.tuple #[.int .i64 0, .int .i64 0, .bool false]))) ∧ ∃ nq, w' = w.drewN nq := by
  go_enter Tryz.func68, Tryz.ntmps68
  go_wp2
  go_loopw [7, 8, 9, 18] (fun x y z i wr => (∃ nq, wr = w.drewN nq) ∧ ∃ k : Nat, i = .int .i64 k ∧ staD a b c d f g k x y z) (fun _ _ _ i _ => (6 - intOf i).toNat)
  case atStart => exact ⟨⟨0, rfl⟩, 0, rfl, .inl ⟨rfl, rfl, rfl, rfl⟩⟩
  case round =>
    obtain ⟨⟨nq, rfl⟩, k, rfl, hk⟩ := hrel
    have ua := a.toNat_lt
    have ub := b.toNat_lt
    have uc := c.toNat_lt
    have ud := d.toNat_lt
    have uf := f.toNat_lt
    have ug := g.toNat_lt
    unfold staD at hk
    rcases hk with ⟨rfl, rfl, rfl, rfl⟩ | ⟨rfl, rfl, rfl, rfl, q0⟩ | ⟨rfl, rfl, rfl, rfl, q0, q1⟩ | ⟨rfl, rfl, rfl, rfl, q0, q1, q2⟩ | ⟨rfl, rfl, rfl, rfl, q0, q1, q2, q3⟩ | ⟨rfl, rfl, rfl, rfl, q0, q1, q2, q3, q4⟩ | ⟨rfl, rfl, rfl, rfl, q0, q1, q2, q3, q4, q5⟩
    · by_cases q0 : ((a.toNat : Int) = 45)
      · have dd : ((a.toNat : Int) != 45) = false := by simpa using q0
        go_wp2
        go_quiet (fail)
        go_wp2
        all_goals go_roundw
        case rel => exact ⟨by first | exact ⟨_, rfl⟩ | exact ⟨_, drewN_drewN _ _ _⟩, 1, rfl, .inr (.inl ⟨rfl, rfl, rfl, rfl, q0⟩)⟩
        case measure => simp [intOf]; try omega
      · have dd : ((a.toNat : Int) != 45) = true := by simpa using q0
        go_wp2
        go_quiet (fail)
        go_wp2
        go_returns
        exact ⟨.inr ⟨fun h => by unfold fitD at h; omega, rfl⟩, by first | exact ⟨_, rfl⟩ | exact ⟨_, drewN_drewN _ _ _⟩⟩
    · by_cases q1 : (48 ≤ (b.toNat : Int) ∧ (b.toNat : Int) ≤ 57)
      · go_wp2
        all_goals go_roundw
        case rel => exact ⟨by first | exact ⟨_, rfl⟩ | exact ⟨_, drewN_drewN _ _ _⟩, 2, rfl, .inr (.inr (.inl ⟨rfl, rfl, rfl, rfl, q0, q1⟩))⟩
        case measure => simp [intOf]; try omega
      · by_cases r : (b.toNat : Int) < 48
        · clear q1
          go_wp2
          go_returns
          exact ⟨.inr ⟨fun h => by unfold fitD at h; omega, rfl⟩, by first | exact ⟨_, rfl⟩ | exact ⟨_, drewN_drewN _ _ _⟩⟩
        · have r2 : 57 < (b.toNat : Int) := by omega
          clear q1
          go_wp2
          go_returns
          exact ⟨.inr ⟨fun h => by unfold fitD at h; omega, rfl⟩, by first | exact ⟨_, rfl⟩ | exact ⟨_, drewN_drewN _ _ _⟩⟩
    · by_cases q2 : (48 ≤ (c.toNat : Int) ∧ (c.toNat : Int) ≤ 57)
      · go_wp2
        all_goals go_roundw
        case rel => exact ⟨by first | exact ⟨_, rfl⟩ | exact ⟨_, drewN_drewN _ _ _⟩, 3, rfl, .inr (.inr (.inr (.inl ⟨rfl, rfl, rfl, rfl, q0, q1, q2⟩)))⟩
        case measure => simp [intOf]; try omega
      · by_cases r : (c.toNat : Int) < 48
        · clear q2
          go_wp2
          go_returns
          exact ⟨.inr ⟨fun h => by unfold fitD at h; omega, rfl⟩, by first | exact ⟨_, rfl⟩ | exact ⟨_, drewN_drewN _ _ _⟩⟩
        · have r2 : 57 < (c.toNat : Int) := by omega
          clear q2
          go_wp2
          go_returns
          exact ⟨.inr ⟨fun h => by unfold fitD at h; omega, rfl⟩, by first | exact ⟨_, rfl⟩ | exact ⟨_, drewN_drewN _ _ _⟩⟩
    · by_cases q3 : ((d.toNat : Int) = 45)
      · have dd : ((d.toNat : Int) != 45) = false := by simpa using q3
        go_wp2
        go_quiet (fail)
        go_wp2
        all_goals go_roundw
        case rel => exact ⟨by first | exact ⟨_, rfl⟩ | exact ⟨_, drewN_drewN _ _ _⟩, 4, rfl, .inr (.inr (.inr (.inr (.inl ⟨rfl, rfl, rfl, rfl, q0, q1, q2, q3⟩))))⟩
        case measure => simp [intOf]; try omega
      · have dd : ((d.toNat : Int) != 45) = true := by simpa using q3
        go_wp2
        go_quiet (fail)
        go_wp2
        go_returns
        exact ⟨.inr ⟨fun h => by unfold fitD at h; omega, rfl⟩, by first | exact ⟨_, rfl⟩ | exact ⟨_, drewN_drewN _ _ _⟩⟩
    · by_cases q4 : (48 ≤ (f.toNat : Int) ∧ (f.toNat : Int) ≤ 57)
      · go_wp2
        all_goals go_roundw
        case rel => exact ⟨by first | exact ⟨_, rfl⟩ | exact ⟨_, drewN_drewN _ _ _⟩, 5, rfl, .inr (.inr (.inr (.inr (.inr (.inl ⟨rfl, rfl, rfl, rfl, q0, q1, q2, q3, q4⟩)))))⟩
        case measure => simp [intOf]; try omega
      · by_cases r : (f.toNat : Int) < 48
        · clear q4
          go_wp2
          go_returns
          exact ⟨.inr ⟨fun h => by unfold fitD at h; omega, rfl⟩, by first | exact ⟨_, rfl⟩ | exact ⟨_, drewN_drewN _ _ _⟩⟩
        · have r2 : 57 < (f.toNat : Int) := by omega
          clear q4
          go_wp2
          go_returns
          exact ⟨.inr ⟨fun h => by unfold fitD at h; omega, rfl⟩, by first | exact ⟨_, rfl⟩ | exact ⟨_, drewN_drewN _ _ _⟩⟩
    · by_cases q5 : (48 ≤ (g.toNat : Int) ∧ (g.toNat : Int) ≤ 57)
      · go_wp2
        all_goals go_roundw
        case rel => exact ⟨by first | exact ⟨_, rfl⟩ | exact ⟨_, drewN_drewN _ _ _⟩, 6, rfl, .inr (.inr (.inr (.inr (.inr (.inr (⟨rfl, rfl, rfl, rfl, q0, q1, q2, q3, q4, q5⟩))))))⟩
        case measure => simp [intOf]; try omega
      · by_cases r : (g.toNat : Int) < 48
        · clear q5
          go_wp2
          go_returns
          exact ⟨.inr ⟨fun h => by unfold fitD at h; omega, rfl⟩, by first | exact ⟨_, rfl⟩ | exact ⟨_, drewN_drewN _ _ _⟩⟩
        · have r2 : 57 < (g.toNat : Int) := by omega
          clear q5
          go_wp2
          go_returns
          exact ⟨.inr ⟨fun h => by unfold fitD at h; omega, rfl⟩, by first | exact ⟨_, rfl⟩ | exact ⟨_, drewN_drewN _ _ _⟩⟩
    · go_wp2
      go_returns
      exact ⟨.inl ⟨⟨q0, q1, q2, q3, q4, q5⟩, rfl⟩, _, rfl⟩

def fitW (a b c d f g : UInt8) : Prop := ((a.toNat : Int) = 45) ∧ ((b.toNat : Int) = 87) ∧ (48 ≤ (c.toNat : Int) ∧ (c.toNat : Int) ≤ 57) ∧ (48 ≤ (d.toNat : Int) ∧ (d.toNat : Int) ≤ 57) ∧ ((f.toNat : Int) = 45) ∧ (48 ≤ (g.toNat : Int) ∧ (g.toNat : Int) ≤ 57)
def staW (a b c d f g : UInt8) (k : Nat) (x y z : Value) : Prop :=
  (k = 0 ∧ x = .int .i64 0 ∧ y = .int .i64 0 ∧ z = .int .i64 0) ∨ (k = 1 ∧ x = .int .i64 0 ∧ y = .int .i64 0 ∧ z = .int .i64 0 ∧ ((a.toNat : Int) = 45)) ∨ (k = 2 ∧ x = .int .i64 0 ∧ y = .int .i64 0 ∧ z = .int .i64 0 ∧ ((a.toNat : Int) = 45) ∧ ((b.toNat : Int) = 87)) ∨ (k = 3 ∧ x = .int .i64 ((c.toNat : Int) - 48) ∧ y = .int .i64 ((c.toNat : Int) - 48) ∧ z = .int .i64 1 ∧ ((a.toNat : Int) = 45) ∧ ((b.toNat : Int) = 87) ∧ (48 ≤ (c.toNat : Int) ∧ (c.toNat : Int) ≤ 57)) ∨ (k = 4 ∧ x = .int .i64 (((c.toNat : Int) - 48) * 10 + ((d.toNat : Int) - 48)) ∧ y = .int .i64 (((c.toNat : Int) - 48) * 10 + ((d.toNat : Int) - 48)) ∧ z = .int .i64 1 ∧ ((a.toNat : Int) = 45) ∧ ((b.toNat : Int) = 87) ∧ (48 ≤ (c.toNat : Int) ∧ (c.toNat : Int) ≤ 57) ∧ (48 ≤ (d.toNat : Int) ∧ (d.toNat : Int) ≤ 57)) ∨ (k = 5 ∧ x = .int .i64 (((c.toNat : Int) - 48) * 10 + ((d.toNat : Int) - 48)) ∧ y = .int .i64 (((c.toNat : Int) - 48) * 10 + ((d.toNat : Int) - 48)) ∧ z = .int .i64 1 ∧ ((a.toNat : Int) = 45) ∧ ((b.toNat : Int) = 87) ∧ (48 ≤ (c.toNat : Int) ∧ (c.toNat : Int) ≤ 57) ∧ (48 ≤ (d.toNat : Int) ∧ (d.toNat : Int) ≤ 57) ∧ ((f.toNat : Int) = 45)) ∨ (k = 6 ∧ x = .int .i64 (((c.toNat : Int) - 48) * 10 + ((d.toNat : Int) - 48)) ∧ y = .int .i64 ((g.toNat : Int) - 48) ∧ z = .int .i64 2 ∧ ((a.toNat : Int) = 45) ∧ ((b.toNat : Int) = 87) ∧ (48 ≤ (c.toNat : Int) ∧ (c.toNat : Int) ≤ 57) ∧ (48 ≤ (d.toNat : Int) ∧ (d.toNat : Int) ≤ 57) ∧ ((f.toNat : Int) = 45) ∧ (48 ≤ (g.toNat : Int) ∧ (g.toNat : Int) ≤ 57))
set_option maxHeartbeats 4000000 in
theorem numsW (a b c d f g : UInt8) (w : World) :
    Calls Tryz.prog 68 #[.string ⟨#[a, b, c, d, f, g]⟩, .string ⟨#[45, 87, 48, 48, 45, 48]⟩] w fun e w' => ((fitW a b c d f g ∧ e = .returned (.tuple #[.int .i64 (((c.toNat : Int) - 48) * 10 + ((d.toNat : Int) - 48)), .int .i64 ((g.toNat : Int) - 48), .bool true])) ∨ (¬ fitW a b c d f g ∧ e = .returned (.tuple #[.int .i64 0, .int .i64 0, .bool false]))) ∧ ∃ nq, w' = w.drewN nq := by
  go_enter Tryz.func68, Tryz.ntmps68
  go_wp2
  go_loopw [7, 8, 9, 18] (fun x y z i wr => (∃ nq, wr = w.drewN nq) ∧ ∃ k : Nat, i = .int .i64 k ∧ staW a b c d f g k x y z) (fun _ _ _ i _ => (6 - intOf i).toNat)
  case atStart => exact ⟨⟨0, rfl⟩, 0, rfl, .inl ⟨rfl, rfl, rfl, rfl⟩⟩
  case round =>
    obtain ⟨⟨nq, rfl⟩, k, rfl, hk⟩ := hrel
    have ua := a.toNat_lt
    have ub := b.toNat_lt
    have uc := c.toNat_lt
    have ud := d.toNat_lt
    have uf := f.toNat_lt
    have ug := g.toNat_lt
    unfold staW at hk
    rcases hk with ⟨rfl, rfl, rfl, rfl⟩ | ⟨rfl, rfl, rfl, rfl, q0⟩ | ⟨rfl, rfl, rfl, rfl, q0, q1⟩ | ⟨rfl, rfl, rfl, rfl, q0, q1, q2⟩ | ⟨rfl, rfl, rfl, rfl, q0, q1, q2, q3⟩ | ⟨rfl, rfl, rfl, rfl, q0, q1, q2, q3, q4⟩ | ⟨rfl, rfl, rfl, rfl, q0, q1, q2, q3, q4, q5⟩
    · by_cases q0 : ((a.toNat : Int) = 45)
      · have dd : ((a.toNat : Int) != 45) = false := by simpa using q0
        go_wp2
        go_quiet (fail)
        go_wp2
        all_goals go_roundw
        case rel => exact ⟨by first | exact ⟨_, rfl⟩ | exact ⟨_, drewN_drewN _ _ _⟩, 1, rfl, .inr (.inl ⟨rfl, rfl, rfl, rfl, q0⟩)⟩
        case measure => simp [intOf]; try omega
      · have dd : ((a.toNat : Int) != 45) = true := by simpa using q0
        go_wp2
        go_quiet (fail)
        go_wp2
        go_returns
        exact ⟨.inr ⟨fun h => by unfold fitW at h; omega, rfl⟩, by first | exact ⟨_, rfl⟩ | exact ⟨_, drewN_drewN _ _ _⟩⟩
    · by_cases q1 : ((b.toNat : Int) = 87)
      · have dd : ((b.toNat : Int) != 87) = false := by simpa using q1
        go_wp2
        go_quiet (fail)
        go_wp2
        all_goals go_roundw
        case rel => exact ⟨by first | exact ⟨_, rfl⟩ | exact ⟨_, drewN_drewN _ _ _⟩, 2, rfl, .inr (.inr (.inl ⟨rfl, rfl, rfl, rfl, q0, q1⟩))⟩
        case measure => simp [intOf]; try omega
      · have dd : ((b.toNat : Int) != 87) = true := by simpa using q1
        go_wp2
        go_quiet (fail)
        go_wp2
        go_returns
        exact ⟨.inr ⟨fun h => by unfold fitW at h; omega, rfl⟩, by first | exact ⟨_, rfl⟩ | exact ⟨_, drewN_drewN _ _ _⟩⟩
    · by_cases q2 : (48 ≤ (c.toNat : Int) ∧ (c.toNat : Int) ≤ 57)
      · go_wp2
        all_goals go_roundw
        case rel => exact ⟨by first | exact ⟨_, rfl⟩ | exact ⟨_, drewN_drewN _ _ _⟩, 3, rfl, .inr (.inr (.inr (.inl ⟨rfl, rfl, rfl, rfl, q0, q1, q2⟩)))⟩
        case measure => simp [intOf]; try omega
      · by_cases r : (c.toNat : Int) < 48
        · clear q2
          go_wp2
          go_returns
          exact ⟨.inr ⟨fun h => by unfold fitW at h; omega, rfl⟩, by first | exact ⟨_, rfl⟩ | exact ⟨_, drewN_drewN _ _ _⟩⟩
        · have r2 : 57 < (c.toNat : Int) := by omega
          clear q2
          go_wp2
          go_returns
          exact ⟨.inr ⟨fun h => by unfold fitW at h; omega, rfl⟩, by first | exact ⟨_, rfl⟩ | exact ⟨_, drewN_drewN _ _ _⟩⟩
    · by_cases q3 : (48 ≤ (d.toNat : Int) ∧ (d.toNat : Int) ≤ 57)
      · go_wp2
        all_goals go_roundw
        case rel => exact ⟨by first | exact ⟨_, rfl⟩ | exact ⟨_, drewN_drewN _ _ _⟩, 4, rfl, .inr (.inr (.inr (.inr (.inl ⟨rfl, rfl, rfl, rfl, q0, q1, q2, q3⟩))))⟩
        case measure => simp [intOf]; try omega
      · by_cases r : (d.toNat : Int) < 48
        · clear q3
          go_wp2
          go_returns
          exact ⟨.inr ⟨fun h => by unfold fitW at h; omega, rfl⟩, by first | exact ⟨_, rfl⟩ | exact ⟨_, drewN_drewN _ _ _⟩⟩
        · have r2 : 57 < (d.toNat : Int) := by omega
          clear q3
          go_wp2
          go_returns
          exact ⟨.inr ⟨fun h => by unfold fitW at h; omega, rfl⟩, by first | exact ⟨_, rfl⟩ | exact ⟨_, drewN_drewN _ _ _⟩⟩
    · by_cases q4 : ((f.toNat : Int) = 45)
      · have dd : ((f.toNat : Int) != 45) = false := by simpa using q4
        go_wp2
        go_quiet (fail)
        go_wp2
        all_goals go_roundw
        case rel => exact ⟨by first | exact ⟨_, rfl⟩ | exact ⟨_, drewN_drewN _ _ _⟩, 5, rfl, .inr (.inr (.inr (.inr (.inr (.inl ⟨rfl, rfl, rfl, rfl, q0, q1, q2, q3, q4⟩)))))⟩
        case measure => simp [intOf]; try omega
      · have dd : ((f.toNat : Int) != 45) = true := by simpa using q4
        go_wp2
        go_quiet (fail)
        go_wp2
        go_returns
        exact ⟨.inr ⟨fun h => by unfold fitW at h; omega, rfl⟩, by first | exact ⟨_, rfl⟩ | exact ⟨_, drewN_drewN _ _ _⟩⟩
    · by_cases q5 : (48 ≤ (g.toNat : Int) ∧ (g.toNat : Int) ≤ 57)
      · go_wp2
        all_goals go_roundw
        case rel => exact ⟨by first | exact ⟨_, rfl⟩ | exact ⟨_, drewN_drewN _ _ _⟩, 6, rfl, .inr (.inr (.inr (.inr (.inr (.inr (⟨rfl, rfl, rfl, rfl, q0, q1, q2, q3, q4, q5⟩))))))⟩
        case measure => simp [intOf]; try omega
      · by_cases r : (g.toNat : Int) < 48
        · clear q5
          go_wp2
          go_returns
          exact ⟨.inr ⟨fun h => by unfold fitW at h; omega, rfl⟩, by first | exact ⟨_, rfl⟩ | exact ⟨_, drewN_drewN _ _ _⟩⟩
        · have r2 : 57 < (g.toNat : Int) := by omega
          clear q5
          go_wp2
          go_returns
          exact ⟨.inr ⟨fun h => by unfold fitW at h; omega, rfl⟩, by first | exact ⟨_, rfl⟩ | exact ⟨_, drewN_drewN _ _ _⟩⟩
    · go_wp2
      go_returns
      exact ⟨.inl ⟨⟨q0, q1, q2, q3, q4, q5⟩, rfl⟩, _, rfl⟩

theorem numslN (s : ByteArray) (h : s.size ≠ 4) (w : World) :
    Calls Tryz.prog 68 #[.string s, .string ⟨#[45, 48, 48, 48]⟩] w fun e w' => e = .returned (.tuple #[.int .i64 0, .int .i64 0, .bool false]) ∧ w = w' := by
  have dd : ((s.size : Int) != 4) = true := by simp; omega
  clear h
  go_enter Tryz.func68, Tryz.ntmps68
  go_wp2
  go_returns
  exact ⟨rfl, rfl⟩
theorem numslY (s : ByteArray) (h : s.size ≠ 4) (w : World) :
    Calls Tryz.prog 68 #[.string s, .string ⟨#[48, 48, 48, 48]⟩] w fun e w' => e = .returned (.tuple #[.int .i64 0, .int .i64 0, .bool false]) ∧ w = w' := by
  have dd : ((s.size : Int) != 4) = true := by simp; omega
  clear h
  go_enter Tryz.func68, Tryz.ntmps68
  go_wp2
  go_returns
  exact ⟨rfl, rfl⟩
theorem numslD (s : ByteArray) (h : s.size ≠ 6) (w : World) :
    Calls Tryz.prog 68 #[.string s, .string ⟨#[45, 48, 48, 45, 48, 48]⟩] w fun e w' => e = .returned (.tuple #[.int .i64 0, .int .i64 0, .bool false]) ∧ w = w' := by
  have dd : ((s.size : Int) != 6) = true := by simp; omega
  clear h
  go_enter Tryz.func68, Tryz.ntmps68
  go_wp2
  go_returns
  exact ⟨rfl, rfl⟩
theorem numslW (s : ByteArray) (h : s.size ≠ 6) (w : World) :
    Calls Tryz.prog 68 #[.string s, .string ⟨#[45, 87, 48, 48, 45, 48]⟩] w fun e w' => e = .returned (.tuple #[.int .i64 0, .int .i64 0, .bool false]) ∧ w = w' := by
  have dd : ((s.size : Int) != 6) = true := by simp; omega
  clear h
  go_enter Tryz.func68, Tryz.ntmps68
  go_wp2
  go_returns
  exact ⟨rfl, rfl⟩
end Go.Proofs.YthkddellilhhaaaGreatDoor
