/- Plain arithmetic of long numbers: nine digits of 16 bits. No Go in this text. -/
namespace Go.Proofs.Ytplbdfdpcgmcjaa
set_option linter.unusedVariables false
namespace Long
/-- The size that nine digits say. -/
def val (A : Nat → Nat) : Nat := A 0 + A 1 * 65536 + A 2 * 4294967296 + A 3 * 281474976710656 + A 4 * 18446744073709551616 + A 5 * 1208925819614629174706176 + A 6 * 79228162514264337593543950336 + A 7 * 5192296858534827628530496329220096 + A 8 * 340282366920938463463374607431768211456
/-- The digits of a size. -/
def dig (n i : Nat) : Nat := n / 65536 ^ i % 65536
def Digits (A : Nat → Nat) : Prop := ∀ i, A i < 65536
theorem dig_lt (n : Nat) : Digits (dig n) := fun i => Nat.mod_lt _ (by omega)
theorem dig_zero (i : Nat) : dig 0 i = 0 := by unfold dig; simp
theorem val_dig (n : Nat) (h : n < 22300745198530623141535718272648361505980416) : val (dig n) = n := by
  unfold val dig
  simp only [Nat.reducePow, Nat.pow_zero, Nat.div_one]
  omega
theorem val_lt (A : Nat → Nat) (h : Digits A) : val A < 22300745198530623141535718272648361505980416 := by
  unfold val
  have h0 := h 0; have h1 := h 1; have h2 := h 2; have h3 := h 3; have h4 := h 4; have h5 := h 5; have h6 := h 6; have h7 := h 7; have h8 := h 8
  omega
/-- Digits are those of the size that they say. -/
theorem dig_val (A : Nat → Nat) (h : Digits A) (i : Nat) (hi : i < 9) : dig (val A) i = A i := by
  have h0 := h 0; have h1 := h 1; have h2 := h 2; have h3 := h 3; have h4 := h 4; have h5 := h 5; have h6 := h 6; have h7 := h 7; have h8 := h 8
  have : i = 0 ∨ i = 1 ∨ i = 2 ∨ i = 3 ∨ i = 4 ∨ i = 5 ∨ i = 6 ∨ i = 7 ∨ i = 8 := by omega
  unfold dig val
  rcases this with rfl | rfl | rfl | rfl | rfl | rfl | rfl | rfl | rfl <;> simp only [Nat.reducePow, Nat.pow_zero, Nat.div_one] <;> omega
/-- The carry ahead of digit i when two sizes are added. -/
def car (n m i : Nat) : Nat := (n % 65536 ^ i + m % 65536 ^ i) / 65536 ^ i
end Long
end Go.Proofs.Ytplbdfdpcgmcjaa
