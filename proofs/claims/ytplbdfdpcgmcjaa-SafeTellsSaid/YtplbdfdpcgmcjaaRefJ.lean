/- Contracts of the document's own answer for layer 1: Floor. -/
import Derived.Test.YtplbdfdpcgmcjaaRefI
namespace Go.Proofs.Ytplbdfdpcgmcjaa
set_option linter.unusedVariables false
set_option linter.unusedSimpArgs false
open Go.ChangeShapes Go.WideShapes Go.ChangeAt Go.RowKit
open Long (dig)

theorem sum_is (p r a : Int) (ha : a = p + r) (sp : Bool) (h1 : sp = true → p ≤ 0) (h2 : sp = false → 0 ≤ p) (hb : p.natAbs + r.natAbs < 22300745198530623141535718272648361505980416) :
    ∃ ux : Bool, (ux = decide (a < 0) ∨ a = 0) ∧ ∀ w, Calls Try.prog 31 #[.agg #[.bool sp, .int .u32 (dig p.natAbs 0 : Nat), .int .u32 (dig p.natAbs 1 : Nat), .int .u32 (dig p.natAbs 2 : Nat), .int .u32 (dig p.natAbs 3 : Nat), .int .u32 (dig p.natAbs 4 : Nat), .int .u32 (dig p.natAbs 5 : Nat), .int .u32 (dig p.natAbs 6 : Nat), .int .u32 (dig p.natAbs 7 : Nat), .int .u32 (dig p.natAbs 8 : Nat)], .agg #[.bool (decide (r < 0)), .int .u32 (dig r.natAbs 0 : Nat), .int .u32 (dig r.natAbs 1 : Nat), .int .u32 (dig r.natAbs 2 : Nat), .int .u32 (dig r.natAbs 3 : Nat), .int .u32 (dig r.natAbs 4 : Nat), .int .u32 (dig r.natAbs 5 : Nat), .int .u32 (dig r.natAbs 6 : Nat), .int .u32 (dig r.natAbs 7 : Nat), .int .u32 (dig r.natAbs 8 : Nat)]] w fun e w' => e = .returned (.agg #[.bool ux, .int .u32 (dig a.natAbs 0 : Nat), .int .u32 (dig a.natAbs 1 : Nat), .int .u32 (dig a.natAbs 2 : Nat), .int .u32 (dig a.natAbs 3 : Nat), .int .u32 (dig a.natAbs 4 : Nat), .int .u32 (dig a.natAbs 5 : Nat), .int .u32 (dig a.natAbs 6 : Nat), .int .u32 (dig a.natAbs 7 : Nat), .int .u32 (dig a.natAbs 8 : Nat)]) ∧ Below w.heap.size w w' := by
  by_cases c : r < 0
  · rw [decide_eq_true c]
    cases sp
    · have p0 := h2 rfl
      by_cases d : r.natAbs ≤ p.natAbs
      · obtain ⟨k, hk⟩ := Nat.exists_eq_add_of_le d
        refine ⟨false, ?_, fun w => ?_⟩
        · left; rw [decide_eq_false (by omega)]
        · rw [hk, show a.natAbs = k by omega]
          exact sum_ge false true r.natAbs k w rfl (by omega)
      · obtain ⟨k, hk⟩ := Nat.exists_eq_add_of_le (show p.natAbs ≤ r.natAbs by omega)
        refine ⟨true, ?_, fun w => ?_⟩
        · left; rw [decide_eq_true (by omega)]
        · rw [hk, show a.natAbs = k by omega]
          exact sum_lt false true p.natAbs k w rfl (by omega) (by omega)
    · have p0 := h1 rfl
      refine ⟨true, ?_, fun w => ?_⟩
      · left; rw [decide_eq_true (by omega)]
      · rw [show a.natAbs = p.natAbs + r.natAbs by omega]
        exact sum_same true p.natAbs r.natAbs w
  · rw [decide_eq_false c]
    cases sp
    · have p0 := h2 rfl
      refine ⟨false, ?_, fun w => ?_⟩
      · left; rw [decide_eq_false (by omega)]
      · rw [show a.natAbs = p.natAbs + r.natAbs by omega]
        exact sum_same false p.natAbs r.natAbs w
    · have p0 := h1 rfl
      by_cases d : r.natAbs ≤ p.natAbs
      · obtain ⟨k, hk⟩ := Nat.exists_eq_add_of_le d
        refine ⟨true, ?_, fun w => ?_⟩
        · by_cases z : a = 0
          · exact .inr z
          · left; rw [decide_eq_true (by omega)]
        · rw [hk, show a.natAbs = k by omega]
          exact sum_ge true false r.natAbs k w rfl (by omega)
      · obtain ⟨k, hk⟩ := Nat.exists_eq_add_of_le (show p.natAbs ≤ r.natAbs by omega)
        refine ⟨false, ?_, fun w => ?_⟩
        · left; rw [decide_eq_false (by omega)]
        · rw [hk, show a.natAbs = k by omega]
          exact sum_lt true false p.natAbs k w rfl (by omega) (by omega)

/-- What a round of Floor calls: of q and r. -/
structure Rnd (a b q r : Int) (sa sb sq sr sp ux : Bool) (k : Nat) : Prop where
  ofq : Hid (∀ w, Calls Try.prog 32 #[.int .i64 q] w fun e w' => e = .returned (.agg #[.bool sq, .int .u32 (dig q.natAbs 0 : Nat), .int .u32 (dig q.natAbs 1 : Nat), .int .u32 (dig q.natAbs 2 : Nat), .int .u32 (dig q.natAbs 3 : Nat), .int .u32 (dig q.natAbs 4 : Nat), .int .u32 (dig q.natAbs 5 : Nat), .int .u32 (dig q.natAbs 6 : Nat), .int .u32 (dig q.natAbs 7 : Nat), .int .u32 (dig q.natAbs 8 : Nat)]) ∧ Below w.heap.size w w')
  ofr : Hid (∀ w, Calls Try.prog 32 #[.int .i64 r] w fun e w' => e = .returned (.agg #[.bool sr, .int .u32 (dig r.natAbs 0 : Nat), .int .u32 (dig r.natAbs 1 : Nat), .int .u32 (dig r.natAbs 2 : Nat), .int .u32 (dig r.natAbs 3 : Nat), .int .u32 (dig r.natAbs 4 : Nat), .int .u32 (dig r.natAbs 5 : Nat), .int .u32 (dig r.natAbs 6 : Nat), .int .u32 (dig r.natAbs 7 : Nat), .int .u32 (dig r.natAbs 8 : Nat)]) ∧ Below w.heap.size w w')
  prod : Hid (∀ w, Calls Try.prog 36 #[.agg #[.bool sq, .int .u32 (dig q.natAbs 0 : Nat), .int .u32 (dig q.natAbs 1 : Nat), .int .u32 (dig q.natAbs 2 : Nat), .int .u32 (dig q.natAbs 3 : Nat), .int .u32 (dig q.natAbs 4 : Nat), .int .u32 (dig q.natAbs 5 : Nat), .int .u32 (dig q.natAbs 6 : Nat), .int .u32 (dig q.natAbs 7 : Nat), .int .u32 (dig q.natAbs 8 : Nat)], .agg #[.bool sb, .int .u32 (dig b.natAbs 0 : Nat), .int .u32 (dig b.natAbs 1 : Nat), .int .u32 (dig b.natAbs 2 : Nat), .int .u32 (dig b.natAbs 3 : Nat), .int .u32 (dig b.natAbs 4 : Nat), .int .u32 (dig b.natAbs 5 : Nat), .int .u32 (dig b.natAbs 6 : Nat), .int .u32 (dig b.natAbs 7 : Nat), .int .u32 (dig b.natAbs 8 : Nat)]] w fun e w' => e = .returned (.agg #[.bool sp, .int .u32 (dig k 0 : Nat), .int .u32 (dig k 1 : Nat), .int .u32 (dig k 2 : Nat), .int .u32 (dig k 3 : Nat), .int .u32 (dig k 4 : Nat), .int .u32 (dig k 5 : Nat), .int .u32 (dig k 6 : Nat), .int .u32 (dig k 7 : Nat), .int .u32 (dig k 8 : Nat)]) ∧ Below w.heap.size w w')
  sum : Hid (∀ w, Calls Try.prog 31 #[.agg #[.bool sp, .int .u32 (dig k 0 : Nat), .int .u32 (dig k 1 : Nat), .int .u32 (dig k 2 : Nat), .int .u32 (dig k 3 : Nat), .int .u32 (dig k 4 : Nat), .int .u32 (dig k 5 : Nat), .int .u32 (dig k 6 : Nat), .int .u32 (dig k 7 : Nat), .int .u32 (dig k 8 : Nat)], .agg #[.bool sr, .int .u32 (dig r.natAbs 0 : Nat), .int .u32 (dig r.natAbs 1 : Nat), .int .u32 (dig r.natAbs 2 : Nat), .int .u32 (dig r.natAbs 3 : Nat), .int .u32 (dig r.natAbs 4 : Nat), .int .u32 (dig r.natAbs 5 : Nat), .int .u32 (dig r.natAbs 6 : Nat), .int .u32 (dig r.natAbs 7 : Nat), .int .u32 (dig r.natAbs 8 : Nat)]] w fun e w' => e = .returned (.agg #[.bool ux, .int .u32 (dig a.natAbs 0 : Nat), .int .u32 (dig a.natAbs 1 : Nat), .int .u32 (dig a.natAbs 2 : Nat), .int .u32 (dig a.natAbs 3 : Nat), .int .u32 (dig a.natAbs 4 : Nat), .int .u32 (dig a.natAbs 5 : Nat), .int .u32 (dig a.natAbs 6 : Nat), .int .u32 (dig a.natAbs 7 : Nat), .int .u32 (dig a.natAbs 8 : Nat)]) ∧ Below w.heap.size w w')
  sign : (ux == sa) = true ∨ ((ux == sa) = false ∧ (a == 0) = true)

theorem rnd_of (a b q r : Int) (h : a = q * b + r) (hq1 : -9223372036854775808 ≤ q) (hq2 : q ≤ 9223372036854775807) (hb1 : -9223372036854775808 ≤ b) (hb2 : b ≤ 9223372036854775807) (hr1 : -9223372036854775808 ≤ r) (hr2 : r ≤ 9223372036854775807) :
    ∃ sq sr sp ux k, Rnd a b q r (decide (a < 0)) (decide (b < 0)) sq sr sp ux k := by
  have le : q.natAbs * b.natAbs ≤ 9223372036854775808 * 9223372036854775808 := Nat.mul_le_mul (by omega) (by omega)
  have na := Int.natAbs_mul q b
  have s1 : (!(decide (q < 0) == decide (b < 0))) = true → q * b ≤ 0 := by
    intro e
    by_cases c : q < 0
    · have : ¬ b < 0 := fun d => by simp [c, d] at e
      exact Int.mul_nonpos_of_nonpos_of_nonneg (by omega) (by omega)
    · have : b < 0 := by
        by_cases d : b < 0
        · exact d
        · simp [c, d] at e
      exact Int.mul_nonpos_of_nonneg_of_nonpos (by omega) (by omega)
  have s2 : (!(decide (q < 0) == decide (b < 0))) = false → 0 ≤ q * b := by
    intro e
    by_cases c : q < 0
    · have : b < 0 := by
        by_cases d : b < 0
        · exact d
        · simp [c, d] at e
      exact Int.mul_nonneg_of_nonpos_of_nonpos (by omega) (by omega)
    · have : ¬ b < 0 := fun d => by simp [c, d] at e
      exact Int.mul_nonneg (by omega) (by omega)
  obtain ⟨ux, hux, S⟩ := sum_is (q * b) r a h _ s1 s2 (by omega)
  rw [na] at S
  refine ⟨_, _, _, ux, _, Lib.hid fun w => of_any q w hq1 hq2, Lib.hid fun w => of_any r w hr1 hr2, Lib.hid fun w => product_any (decide (q < 0)) (decide (b < 0)) _ rfl q.natAbs b.natAbs w (by omega) (by omega), Lib.hid S, ?_⟩
  rcases hux with rfl | rfl
  · left; simp
  · cases hx : (ux == decide ((0 : Int) < 0))
    · exact .inr ⟨rfl, rfl⟩
    · exact .inl rfl
end Go.Proofs.Ytplbdfdpcgmcjaa
