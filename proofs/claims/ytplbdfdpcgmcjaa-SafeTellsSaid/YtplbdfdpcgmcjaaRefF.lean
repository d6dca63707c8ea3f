/- Contracts of the document's own answer for layer 1: sizes, the greatest common divisor. -/
import Derived.Test.YtplbdfdpcgmcjaaRefE
namespace Go.Proofs.Ytplbdfdpcgmcjaa
set_option linter.unusedVariables false
set_option linter.unusedSimpArgs false
open Go.ChangeShapes Go.WideShapes Go.ChangeAt Go.RowKit

theorem size_any (a : Int) (w : World) (ha1 : -9223372036854775808 ≤ a) (ha2 : a ≤ 9223372036854775807) :
    Calls Try.prog 40 #[.int .i64 a] w fun e w' => e = .returned (.int .u64 (a.natAbs : Nat)) ∧ w = w' := by
  by_cases c : a < 0
  · go_enter Try.func40, Try.ntmps40
    go_wp2
    go_ret
    exact ⟨ret_int (by omega), rfl⟩
  · go_enter Try.func40, Try.ntmps40
    go_wp2
    go_ret
    exact ⟨ret_int (by omega), rfl⟩

namespace Com
theorem both {a b : Nat} (ha : a % 2 = 0) (hb : b % 2 = 0) (k : Nat) : Nat.gcd (a / 2) (b / 2) * (k * 2) = Nat.gcd a b * k := by
  have e : Nat.gcd a b = 2 * Nat.gcd (a / 2) (b / 2) := by
    conv => lhs; rw [show a = 2 * (a / 2) by omega, show b = 2 * (b / 2) by omega]
    exact Nat.gcd_mul_left 2 (a / 2) (b / 2)
  rw [e, Nat.mul_comm k 2, ← Nat.mul_assoc, Nat.mul_comm _ 2]
theorem left {a b : Nat} (ha : a % 2 = 0) (hb : b % 2 ≠ 0) : Nat.gcd (a / 2) b = Nat.gcd a b := by
  have c : Nat.Coprime 2 b := by
    unfold Nat.Coprime
    rw [Nat.gcd_rec, show b % 2 = 1 by omega]
    simp
  conv => rhs; rw [show a = 2 * (a / 2) by omega]
  exact (Nat.Coprime.gcd_mul_left_cancel (a / 2) c).symm
theorem right {a b : Nat} (ha : a % 2 ≠ 0) (hb : b % 2 = 0) : Nat.gcd a (b / 2) = Nat.gcd a b := by
  rw [Nat.gcd_comm, left hb ha, Nat.gcd_comm]
theorem down {a b : Nat} (h : b ≤ a) : Nat.gcd (a - b) b = Nat.gcd a b := by
  obtain ⟨d, rfl⟩ := Nat.exists_eq_add_of_le h
  rw [Nat.add_sub_cancel_left, Nat.gcd_comm d, Nat.gcd_comm (b + d)]
  simp
end Com

set_option maxHeartbeats 4000000 in
theorem common_any (A B : Nat) (hA : A ≤ 9223372036854775808) (hB : B ≤ 9223372036854775808) (w : World) :
    Calls Try.prog 39 #[.int .u64 A, .int .u64 B] w fun e w' => e = .returned (.int .u64 (Nat.gcd A B : Nat)) ∧ w = w' := by
  have HA := Lib.hid hA
  have HB := Lib.hid hB
  go_enter Try.func39, Try.ntmps39
  go_wp2
  go_loopw [0, 1, 5] (fun x y t wr => wr = w ∧ ∃ a b k : Nat, x = .int .u64 a ∧ y = .int .u64 b ∧ t = .int .u64 k ∧ Hid (Nat.gcd a b * k = Nat.gcd A B) ∧ 1 ≤ k ∧ k ≤ 9223372036854775808 ∧ a ≤ 9223372036854775808 ∧ b ≤ 9223372036854775808 ∧ Hid (a * k ≤ A) ∧ Hid (b * k ≤ B)) (fun x y _ _ => (intOf x + intOf y).toNat)
  case atStart => exact ⟨rfl, A, B, 1, rfl, rfl, rfl, Lib.hid (Nat.mul_one _), by omega, by omega, hA, hB, Lib.hid (by omega), Lib.hid (by omega)⟩
  case round =>
    obtain ⟨rfl, a, b, k, rfl, rfl, rfl, HG, k1, k2, a2, b2, HAK, HBK⟩ := hrel
    clear hA hB
    by_cases za : a = 0
    · subst za
      have e : Nat.gcd 0 b * k = b * k := by rw [Nat.gcd_zero_left]
      have b0 := HBK.out
      have B0 := HB.out
      have R := Lib.hid (show ((b : Int) * (k : Int)) = (Nat.gcd A B : Nat) by rw [← HG.out, e, Int.natCast_mul])
      have z1 : 0 ≤ (b : Int) * (k : Int) := by rw [← Int.natCast_mul]; omega
      have z2 : (b : Int) * (k : Int) ≤ 9223372036854775808 := by rw [← Int.natCast_mul]; omega
      clear e b0 B0
      go_wp2
      go_returns
      exact ⟨ret_int R.out, rfl⟩
    · by_cases zb : b = 0
      · subst zb
        have e : Nat.gcd a 0 * k = a * k := by rw [Nat.gcd_zero_right]
        have a0 := HAK.out
        have A0 := HA.out
        have R := Lib.hid (show ((a : Int) * (k : Int)) = (Nat.gcd A B : Nat) by rw [← HG.out, e, Int.natCast_mul])
        have z1 : 0 ≤ (a : Int) * (k : Int) := by rw [← Int.natCast_mul]; omega
        have z2 : (a : Int) * (k : Int) ≤ 9223372036854775808 := by rw [← Int.natCast_mul]; omega
        have a1 : 1 ≤ (a : Int) := by omega
        clear e a0 A0 za
        go_wp2
        go_returns
        exact ⟨ret_int R.out, rfl⟩
      · have a1 : 1 ≤ (a : Int) := by omega
        have b1 : 1 ≤ (b : Int) := by omega
        have half : ∀ x : Nat, (.int .u64 ((x : Int) / 2) : Value) = .int .u64 ((x / 2 : Nat) : Int) := fun x => by rw [Int.natCast_ediv]; rfl
        have HH := Lib.hid half
        clear half
        have le2 : ∀ x : Nat, x / 2 * k ≤ x * k := fun x => Nat.mul_le_mul_right k (Nat.div_le_self x 2)
        have HL := Lib.hid le2
        clear le2 za zb
        by_cases ea : a % 2 = 0 <;> by_cases eb : b % 2 = 0
        · have t1 : ((a : Int) % 2 == 0) = true := by simp; omega
          have t2 : ((b : Int) % 2 == 0) = true := by simp; omega
          have kk : k * 2 ≤ 9223372036854775808 := by
            have := Nat.mul_le_mul_right k (show 2 ≤ a by omega)
            have := HAK.out
            have := HA.out
            omega
          have G := Lib.hid (Com.both ea eb k)
          have HA2 := Lib.hid (show a / 2 * (k * 2) ≤ A from Nat.le_trans (by rw [Nat.mul_comm k 2, ← Nat.mul_assoc]; exact Nat.mul_le_mul_right k (by omega)) HAK.out)
          have HB2 := Lib.hid (show b / 2 * (k * 2) ≤ B from Nat.le_trans (by rw [Nat.mul_comm k 2, ← Nat.mul_assoc]; exact Nat.mul_le_mul_right k (by omega)) HBK.out)
          have HK := Lib.hid kk
          have kk' : (k : Int) * 2 ≤ 9223372036854775808 := by omega
          clear ea eb kk
          go_wp2
          all_goals go_roundw
          case rel => exact ⟨trivial, a / 2, b / 2, k * 2, HH.out a, HH.out b, by rw [Int.natCast_mul]; rfl, Lib.hid (G.out.trans HG.out), by omega, HK.out, by omega, by omega, HA2, HB2⟩
          case measure => simp [intOf]; omega
        · have t1 : ((a : Int) % 2 == 0) = true := by simp; omega
          have t2 : ((b : Int) % 2 == 0) = false := by simp; omega
          have G := Lib.hid (Com.left ea eb)
          clear ea eb
          go_wp2
          all_goals go_roundw
          case rel => exact ⟨trivial, a / 2, b, k, HH.out a, rfl, rfl, Lib.hid (by rw [G.out]; exact HG.out), k1, k2, by omega, b2, Lib.hid (Nat.le_trans (HL.out a) HAK.out), HBK⟩
          case measure => simp [intOf]; omega
        · have t1 : ((a : Int) % 2 == 0) = false := by simp; omega
          have t2 : ((b : Int) % 2 == 0) = true := by simp; omega
          have G := Lib.hid (Com.right ea eb)
          clear ea eb
          go_wp2
          all_goals go_roundw
          case rel => exact ⟨trivial, a, b / 2, k, rfl, HH.out b, rfl, Lib.hid (by rw [G.out]; exact HG.out), k1, k2, a2, by omega, HAK, Lib.hid (Nat.le_trans (HL.out b) HBK.out)⟩
          case measure => simp [intOf]; omega
        · have t1 : ((a : Int) % 2 == 0) = false := by simp; omega
          have t2 : ((b : Int) % 2 == 0) = false := by simp; omega
          clear ea eb
          by_cases c : b ≤ a
          · have G := Lib.hid (Com.down c)
            have c' : (b : Int) ≤ (a : Int) := by omega
            have S := Lib.hid (show (.int .u64 ((a : Int) - (b : Int)) : Value) = .int .u64 ((a - b : Nat) : Int) by rw [Int.ofNat_sub c])
            have HC := Lib.hid c
            clear c
            go_wp2
            all_goals go_roundw
            case rel => exact ⟨trivial, a - b, b, k, S.out, rfl, rfl, Lib.hid (by rw [G.out]; exact HG.out), k1, k2, by omega, b2, Lib.hid (Nat.le_trans (Nat.mul_le_mul_right k (by omega)) HAK.out), HBK⟩
            case measure => have := HC.out; simp [intOf]; omega
          · have G := Lib.hid (show Nat.gcd a (b - a) = Nat.gcd a b by rw [Nat.gcd_comm, Com.down (show a ≤ b by omega), Nat.gcd_comm])
            have c' : (a : Int) < (b : Int) := by omega
            have S := Lib.hid (show (.int .u64 ((b : Int) - (a : Int)) : Value) = .int .u64 ((b - a : Nat) : Int) by rw [Int.ofNat_sub (by omega)])
            have HC := Lib.hid c
            clear c
            go_wp2
            all_goals go_roundw
            case rel => exact ⟨trivial, a, b - a, k, rfl, S.out, rfl, Lib.hid (by rw [G.out]; exact HG.out), k1, k2, a2, by omega, HAK, Lib.hid (Nat.le_trans (Nat.mul_le_mul_right k (by omega)) HBK.out)⟩
            case measure => have := HC.out; simp [intOf]; omega

theorem rgcd_any (a b : Int) (w : World) (ha1 : -9223372036854775808 ≤ a) (ha2 : a ≤ 9223372036854775807) (hb1 : -9223372036854775808 ≤ b) (hb2 : b ≤ 9223372036854775807) :
    (Nat.gcd a.natAbs b.natAbs ≤ 9223372036854775807 → Calls Try.prog 18 #[.int .i64 a, .int .i64 b] w fun e w' => e = .returned (.tuple #[.int .i64 (Nat.gcd a.natAbs b.natAbs : Nat), .int .i64 0]) ∧ w = w') ∧
    (9223372036854775807 < Nat.gcd a.natAbs b.natAbs → Nat.gcd a.natAbs b.natAbs ≤ 9223372036854775808 → Calls Try.prog 18 #[.int .i64 a, .int .i64 b] w fun e w' => e = .returned (.tuple #[.int .i64 0, .int .i64 10]) ∧ w = w') := by
  have SA := Lib.hid (fun w => size_any a w ha1 ha2)
  have SB := Lib.hid (fun w => size_any b w hb1 hb2)
  have C := Lib.hid (fun w => common_any a.natAbs b.natAbs (by omega) (by omega) w)
  generalize Nat.gcd a.natAbs b.natAbs = g at *
  refine ⟨fun h => ?_, fun h h2 => ?_⟩
  · have h' : (g : Int) ≤ 9223372036854775807 := by omega
    go_enter Try.func18, Try.ntmps18
    go_wp2_with (first
      | (go_at_call 40; (with_reducible refine (SA.out _).mono ?_); rintro e w' ⟨rfl, rfl⟩)
      | (go_at_call 40; (with_reducible refine (SB.out _).mono ?_); rintro e w' ⟨rfl, rfl⟩)
      | (go_at_call 39; (with_reducible refine (C.out _).mono ?_); rintro e w' ⟨rfl, rfl⟩))
    go_returns
    exact ⟨rfl, rfl⟩
  · have h' : 9223372036854775807 < (g : Int) := by omega
    go_enter Try.func18, Try.ntmps18
    go_wp2_with (first
      | (go_at_call 40; (with_reducible refine (SA.out _).mono ?_); rintro e w' ⟨rfl, rfl⟩)
      | (go_at_call 40; (with_reducible refine (SB.out _).mono ?_); rintro e w' ⟨rfl, rfl⟩)
      | (go_at_call 39; (with_reducible refine (C.out _).mono ?_); rintro e w' ⟨rfl, rfl⟩))
    go_returns
    exact ⟨rfl, rfl⟩
end Go.Proofs.Ytplbdfdpcgmcjaa
