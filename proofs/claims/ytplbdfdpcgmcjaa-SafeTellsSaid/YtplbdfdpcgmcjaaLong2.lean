/- Plain arithmetic of long numbers: a digit times a size. No Go in this text. -/
import Derived.Test.YtplbdfdpcgmcjaaLong
namespace Go.Proofs.Ytplbdfdpcgmcjaa
set_option linter.unusedVariables false
namespace Long
/-- The carry ahead of digit k when a size is taken so many times. -/
def mcar (a m k : Nat) : Nat := a * (m % 65536 ^ k) / 65536 ^ k
theorem mcar_zero (a m : Nat) : mcar a m 0 = 0 := by unfold mcar; simp [Nat.mod_one]
theorem mcar_le (a m k : Nat) : mcar a m k ≤ a := by
  have hP : 0 < 65536 ^ k := Nat.pow_pos (by omega)
  unfold mcar
  generalize 65536 ^ k = P at *
  have l := Nat.mod_lt m hP
  have h : a * (m % P) ≤ a * P := Nat.mul_le_mul_left a (Nat.le_of_lt l)
  have h2 : a * (m % P) / P ≤ a * P / P := Nat.div_le_div_right h
  rwa [Nat.mul_div_cancel _ hP] at h2
theorem mstep (a m k : Nat) : a * dig m k + mcar a m k = dig (a * m) k + 65536 * mcar a m (k + 1) := by
  have hP : 0 < 65536 ^ k := Nat.pow_pos (by omega)
  unfold dig mcar
  rw [Nat.pow_succ]
  generalize 65536 ^ k = P at *
  have hm : m % (P * 65536) = m % P + P * (m / P % 65536) := Nat.mod_mul
  -- what is told of the first digits
  have e1 : a * (m % (P * 65536)) / P = a * (m / P % 65536) + a * (m % P) / P := by
    rw [hm, Nat.mul_add, show a * (P * (m / P % 65536)) = P * (a * (m / P % 65536)) by rw [Nat.mul_left_comm], Nat.add_comm, Nat.mul_add_div hP]
  have e2 : a * (m % (P * 65536)) / (P * 65536) = (a * (m / P % 65536) + a * (m % P) / P) / 65536 := by
    rw [← Nat.div_div_eq_div_mul, e1]
  have e3 : a * m / P % 65536 = (a * (m / P % 65536) + a * (m % P) / P) % 65536 := by
    have hd : m = P * 65536 * (m / (P * 65536)) + m % (P * 65536) := (Nat.div_add_mod m (P * 65536)).symm
    have : a * m = P * (65536 * (a * (m / (P * 65536)))) + a * (m % (P * 65536)) := by
      conv => lhs; rw [hd]
      rw [Nat.mul_add, show a * (P * 65536 * (m / (P * 65536))) = P * (65536 * (a * (m / (P * 65536)))) by rw [Nat.mul_assoc, Nat.mul_left_comm, Nat.mul_left_comm a 65536]]
    rw [this, Nat.mul_add_div hP, e1]
    omega
  rw [e2, e3]
  omega
/-- Digits further up. -/
theorem dig_shift (q i j : Nat) : dig (q * 65536 ^ i) (i + j) = dig q j := by
  have hP : 0 < 65536 ^ i := Nat.pow_pos (by omega)
  unfold dig
  rw [Nat.pow_add, ← Nat.div_div_eq_div_mul, Nat.mul_div_cancel _ hP]
theorem dig_low (q i j : Nat) (h : j < i) : dig (q * 65536 ^ i) j = 0 := by
  have hP : 0 < 65536 ^ j := Nat.pow_pos (by omega)
  obtain ⟨d, rfl⟩ := Nat.exists_eq_add_of_lt h
  unfold dig
  rw [show j + d + 1 = j + (d + 1) by omega, Nat.pow_add, Nat.pow_succ, Nat.mul_left_comm, Nat.mul_div_cancel_left _ hP, ← Nat.mul_assoc]
  exact Nat.mul_mod_left _ _
theorem dig_none (q j : Nat) (h : q < 65536 ^ j) : dig q j = 0 := by
  unfold dig
  rw [Nat.div_eq_of_lt h]
/-- One digit more. -/
theorem more_digit (n m i : Nat) : n % 65536 ^ (i + 1) * m = n % 65536 ^ i * m + dig n i * m * 65536 ^ i := by
  unfold dig
  rw [Nat.pow_succ, Nat.mod_mul, Nat.add_mul]
  congr 1
  rw [Nat.mul_assoc, Nat.mul_comm]
end Long
end Go.Proofs.Ytplbdfdpcgmcjaa
