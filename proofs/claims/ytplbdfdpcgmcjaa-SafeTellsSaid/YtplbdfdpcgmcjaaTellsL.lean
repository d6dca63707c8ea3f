/- SafeTells: the law, put together. -/
import Derived.Test.YtplbdfdpcgmcjaaTellsW
import Derived.Test.YtplbdfdpcgmcjaaRefK
namespace Go.Proofs.Ytplbdfdpcgmcjaa
set_option linter.unusedVariables false
set_option linter.unusedSimpArgs false
open Go.ChangeShapes Go.WideShapes Go.ChangeAt Go.RowKit

theorem tell_pure {f : Nat} {vs : Array Value} {r : Ending} (c : ∀ w, Calls Try.prog f vs w fun e' w' => e' = r ∧ w = w') : Hid (∀ w, Calls Try.prog f vs w fun e' w' => e' = r ∧ Below w.heap.size w w') :=
  Lib.hid fun w => (c w).mono fun e w' ⟨he, hw⟩ => ⟨he, hw ▸ Below.refl _ _⟩
theorem tell_drew {f : Nat} {vs : Array Value} {r : Ending} (c : ∀ w, Calls Try.prog f vs w fun e' w' => e' = r ∧ ∃ n, w' = w.drewN n) : Hid (∀ w, Calls Try.prog f vs w fun e' w' => e' = r ∧ Below w.heap.size w w') :=
  Lib.hid fun w => (c w).mono fun e w' ⟨he, n, hw⟩ => ⟨he, hw ▸ below_drewN' (Below.refl _ _) n⟩

theorem rfloor_zero (a : Int) (w : World) :
    Calls Try.prog 16 #[.int .i64 a, .int .i64 0] w fun e w' => e = .returned (.tuple #[.int .i64 0, .int .i64 0, .int .i64 11]) ∧ w = w' := by
  go_enter Try.func16, Try.ntmps16
  go_wp2
  go_returns
  exact ⟨rfl, rfl⟩
theorem rfloor_one (a x e : Int) (S : ∀ w, Calls Try.prog 12 #[.int .i64 0, .int .i64 a] w fun e' w' => e' = .returned (.tuple #[.int .i64 x, .int .i64 e]) ∧ Below w.heap.size w w') (w : World) :
    Calls Try.prog 16 #[.int .i64 a, .int .i64 (-1)] w fun e' w' => e' = .returned (.tuple #[.int .i64 x, .int .i64 0, .int .i64 e]) ∧ Below w.heap.size w w' := by
  have S := Lib.hid S
  go_enter Try.func16, Try.ntmps16
  go_wp2_with (go_at_call 12; (with_reducible refine (S.out _).mono ?_); rintro e' w1 ⟨rfl, b1⟩)
  go_returns
  exact ⟨rfl, b1⟩

theorem rfloor_ok (a b : Int) (ha1 : -9223372036854775808 ≤ a) (ha2 : a ≤ 9223372036854775807) (hb1 : -9223372036854775808 ≤ b) (hb2 : b ≤ 9223372036854775807)
    (h0 : ¬ b = 0) (hm : ¬ b = -1) (w : World) :
    Calls Try.prog 16 #[.int .i64 a, .int .i64 b] w fun e w' => e = .returned (.tuple #[.int .i64 (a.fdiv b), .int .i64 (a.fmod b), .int .i64 0]) ∧ Below w.heap.size w w' := by
  have b0 : (b == 0) = false := by simpa using h0
  have b1 : (b == -1) = false := by simpa using hm
  have z1 : (a == -9223372036854775808) = false ∨ (a == -9223372036854775808) = true := by cases (a == -9223372036854775808) <;> simp
  have key : b * a.tdiv b + a.tmod b = a := Int.mul_tdiv_add_tmod a b
  rw [Int.mul_comm] at key
  have rl : (a.tmod b).natAbs < b.natAbs := by rw [Int.natAbs_tmod]; exact Nat.mod_lt _ (by omega)
  have ql : (a.tdiv b).natAbs ≤ a.natAbs := Int.natAbs_tdiv_le_natAbs a b
  have sg : 0 ≤ a → 0 ≤ a.tmod b := fun h => Int.tmod_nonneg b h
  have sg2 : a ≤ 0 → a.tmod b ≤ 0 := fun h => by
    have := Int.tmod_nonneg b (show 0 ≤ -a by omega)
    rw [Int.neg_tmod] at this
    omega
  -- the quotient is less by half, but where b is one
  have q2 : b ≠ 1 → (a.tdiv b).natAbs * 2 ≤ a.natAbs := fun h1 => by
    rw [Int.natAbs_tdiv]
    have h2 : 2 ≤ b.natAbs := by omega
    exact Nat.le_trans (Nat.mul_le_mul_left _ h2) (Nat.div_mul_le_self _ _)
  have one : b = 1 → a.tmod b = 0 := fun h => by subst h; exact Int.tmod_one a
  have pl : -9223372036854775808 ≤ a.tdiv b * b ∧ a.tdiv b * b ≤ 9223372036854775807 := by
    by_cases c : 0 ≤ a
    · have := sg c; have : 0 ≤ a.tdiv b * b := by
        have := Int.mul_tdiv_self_le (x := a) (k := b) c
        rcases (show 0 ≤ b ∨ b < 0 by omega) with d | d
        · exact Int.mul_nonneg (Int.tdiv_nonneg c d) d
        · exact Int.mul_nonneg_of_nonpos_of_nonpos (Int.tdiv_nonpos_of_nonneg_of_nonpos c (by omega)) (by omega)
      omega
    · have := sg2 (by omega); have : a.tdiv b * b ≤ 0 := by
        rcases (show 0 ≤ b ∨ b < 0 by omega) with d | d
        · have := Int.tdiv_nonneg (a := -a) (b := b) (by omega) d
          rw [Int.neg_tdiv] at this
          exact Int.mul_nonpos_of_nonpos_of_nonneg (by omega) d
        · have := Int.tdiv_nonpos_of_nonneg_of_nonpos (a := -a) (b := b) (by omega) (by omega)
          rw [Int.neg_tdiv] at this
          exact Int.mul_nonpos_of_nonneg_of_nonpos (by omega) (by omega)
      omega
  obtain ⟨q, hq⟩ : ∃ q, a.tdiv b = q := ⟨_, rfl⟩
  obtain ⟨r, hr⟩ : ∃ r, a.tmod b = r := ⟨_, rfl⟩
  obtain ⟨p, hp⟩ : ∃ p, q * b = p := ⟨_, rfl⟩
  rw [hq] at ql q2 key pl
  rw [hr] at key rl sg sg2 one
  rw [hp] at pl key
  have har : a - p = r := by omega
  have qmin : -9223372036854775808 ≤ q := by omega
  have qmax : q ≤ 9223372036854775807 := by
    rcases (show b = 1 ∨ b ≠ 1 by omega) with c | c
    · have o1 := one c
      rw [c, Int.mul_one] at hp
      omega
    · have := q2 c; omega
  have qmin2 : b ≠ 1 → -9223372036854775807 ≤ q := fun h => by have := q2 h; omega
  obtain ⟨sq, sr, sp, ux, k, R⟩ := rnd_of a b q r (by rw [hp]; omega) qmin qmax hb1 hb2 (by omega) (by omega)
  have FU := fun q r => @fl_unique a b q r
  have A := Lib.hid (fun w => of_any a w ha1 ha2)
  have B := Lib.hid (fun w => of_any b w hb1 hb2)
  by_cases c1 : r = 0
  · have U := FU q r (by rw [hp]; omega) (by omega)
    rw [← U.1, ← U.2]
    exact floor_c1a a b q r p w ha1 ha2 hb1 hb2 qmin qmax (by omega) (by omega) pl.1 pl.2 h0 hm b0 b1 z1 hq hp har (by simpa using c1) _ _ A B ux ⟨sq, sr, sp, k, R⟩
  · have r0 : (r == 0) = false := by simpa using c1
    have nb1 : b ≠ 1 := fun h => c1 (one h)
    have q3 := q2 nb1
    by_cases cb : 0 < b
    · by_cases cr : 0 < r
      · have U := FU q r (by rw [hp]; omega) (by omega)
        rw [← U.1, ← U.2]
        exact floor_c1b a b q r p w ha1 ha2 hb1 hb2 qmin qmax (by omega) (by omega) pl.1 pl.2 h0 hm b0 b1 z1 hq hp har r0 cb cr (by omega) _ _ A B ux ⟨sq, sr, sp, k, R⟩
      · have e2 : a = (q - 1) * b + (r + b) := by rw [Int.sub_mul, hp]; omega
        have U := FU (q - 1) (r + b) e2.symm (by omega)
        obtain ⟨sq2, sr2, sp2, ux2, k2, R2⟩ := rnd_of a b (q - 1) (r + b) e2 (by omega) (by omega) hb1 hb2 (by omega) (by omega)
        rw [← U.1, ← U.2]
        exact floor_c2a a b q r p w ha1 ha2 hb1 hb2 (qmin2 nb1) qmax (by omega) (by omega) pl.1 pl.2 h0 hm b0 b1 z1 hq hp har r0 cb cr (by omega) (by omega) (by omega) (by simp; omega) _ _ A B ux ⟨sq, sr, sp, k, R⟩ ux2 ⟨sq2, sr2, sp2, k2, R2⟩ (by omega) (by omega)
    · have cb' : b < 0 := by omega
      by_cases cr : r < 0
      · have U := FU q r (by rw [hp]; omega) (by omega)
        rw [← U.1, ← U.2]
        exact floor_c1c a b q r p w ha1 ha2 hb1 hb2 qmin qmax (by omega) (by omega) pl.1 pl.2 h0 hm b0 b1 z1 hq hp har r0 cb cb' cr (by omega) _ _ A B ux ⟨sq, sr, sp, k, R⟩
      · have e2 : a = (q - 1) * b + (r + b) := by rw [Int.sub_mul, hp]; omega
        have U := FU (q - 1) (r + b) e2.symm (by omega)
        obtain ⟨sq2, sr2, sp2, ux2, k2, R2⟩ := rnd_of a b (q - 1) (r + b) e2 (by omega) (by omega) hb1 hb2 (by omega) (by omega)
        rw [← U.1, ← U.2]
        exact floor_c2b a b q r p w ha1 ha2 hb1 hb2 (qmin2 nb1) qmax (by omega) (by omega) pl.1 pl.2 h0 hm b0 b1 z1 hq hp har r0 cb cb' cr (by omega) (by omega) (by simp; omega) _ _ A B ux ⟨sq, sr, sp, k, R⟩ ux2 ⟨sq2, sr2, sp2, k2, R2⟩ (by omega) (by omega)

theorem adds_same (a b : Int) (ha1 : -9223372036854775808 ≤ a) (ha2 : a ≤ 9223372036854775807) (hb1 : -9223372036854775808 ≤ b) (hb2 : b ≤ 9223372036854775807) :
    ∃ x e, Tell2 9 a b x e ∧ Tell2 10 a b x e := by
  by_cases c : -9223372036854775808 ≤ a + b ∧ a + b ≤ 9223372036854775807
  · exact ⟨_, _, tell_pure fun w => add_ok a b w ha1 ha2 hb1 hb2 c.1 c.2, Lib.hid fun w => (radd_any a b ha1 ha2 hb1 hb2).1 w c.1 c.2⟩
  · exact ⟨_, _, tell_pure fun w => add_over a b w ha1 ha2 hb1 hb2 (by omega), Lib.hid fun w => (radd_any a b ha1 ha2 hb1 hb2).2 w (by omega)⟩
theorem subs_same (a b : Int) (ha1 : -9223372036854775808 ≤ a) (ha2 : a ≤ 9223372036854775807) (hb1 : -9223372036854775808 ≤ b) (hb2 : b ≤ 9223372036854775807) :
    ∃ x e, Tell2 11 a b x e ∧ Tell2 12 a b x e := by
  by_cases c : -9223372036854775808 ≤ a - b ∧ a - b ≤ 9223372036854775807
  · exact ⟨_, _, tell_pure fun w => sub_ok a b w ha1 ha2 hb1 hb2 c.1 c.2, Lib.hid fun w => (rsub_any a b ha1 ha2 hb1 hb2).1 w c.1 c.2⟩
  · exact ⟨_, _, tell_pure fun w => sub_over a b w ha1 ha2 hb1 hb2 (by omega), Lib.hid fun w => (rsub_any a b ha1 ha2 hb1 hb2).2 w (by omega)⟩
theorem muls_same (a b : Int) (ha1 : -9223372036854775808 ≤ a) (ha2 : a ≤ 9223372036854775807) (hb1 : -9223372036854775808 ≤ b) (hb2 : b ≤ 9223372036854775807) :
    ∃ x e, Tell2 13 a b x e ∧ Tell2 14 a b x e := by
  have na := Int.natAbs_mul a b
  have s1 : (!(decide (a < 0) == decide (b < 0))) = true → a * b ≤ 0 := by
    intro e
    by_cases c : a < 0
    · have : ¬ b < 0 := fun d => by simp [c, d] at e
      exact Int.mul_nonpos_of_nonpos_of_nonneg (by omega) (by omega)
    · have : b < 0 := by
        by_cases d : b < 0
        · exact d
        · simp [c, d] at e
      exact Int.mul_nonpos_of_nonneg_of_nonpos (by omega) (by omega)
  have s2 : (!(decide (a < 0) == decide (b < 0))) = false → 0 ≤ a * b := by
    intro e
    by_cases c : a < 0
    · have : b < 0 := by
        by_cases d : b < 0
        · exact d
        · simp [c, d] at e
      exact Int.mul_nonneg_of_nonpos_of_nonpos (by omega) (by omega)
    · have : ¬ b < 0 := fun d => by simp [c, d] at e
      exact Int.mul_nonneg (by omega) (by omega)
  have M := fun w => rmul_go a b w ha1 ha2 hb1 hb2
  by_cases c : -9223372036854775808 ≤ a * b ∧ a * b ≤ 9223372036854775807
  · refine ⟨_, _, tell_pure fun w => mul_ok a b w ha1 ha2 hb1 hb2 c.1 c.2, Lib.hid fun w => ?_⟩
    have m := M w
    cases hs : (!(decide (a < 0) == decide (b < 0)))
    · have p := s2 hs
      rw [hs, numE_pos _ (by omega), show ((a.natAbs * b.natAbs : Nat) : Int) = a * b by omega] at m
      exact m
    · have p := s1 hs
      rw [hs, numE_neg _ (by omega), show -((a.natAbs * b.natAbs : Nat) : Int) = a * b by omega] at m
      exact m
  · refine ⟨_, _, tell_pure fun w => mul_over a b w ha1 ha2 hb1 hb2 (by omega), Lib.hid fun w => ?_⟩
    have m := M w
    cases hs : (!(decide (a < 0) == decide (b < 0)))
    · have p := s2 hs
      rcases (show 9223372036854775808 < a.natAbs * b.natAbs ∨ a.natAbs * b.natAbs = 9223372036854775808 by omega) with d | d
      · rw [hs, numE_over _ _ d] at m
        exact m
      · rw [hs, d, numE_least] at m
        exact m
    · have p := s1 hs
      rw [hs, numE_over _ _ (by omega)] at m
      exact m
theorem gcds_same (a b : Int) (ha1 : -9223372036854775808 ≤ a) (ha2 : a ≤ 9223372036854775807) (hb1 : -9223372036854775808 ≤ b) (hb2 : b ≤ 9223372036854775807) :
    ∃ x e, Tell2 17 a b x e ∧ Tell2 18 a b x e := by
  by_cases c : Nat.gcd a.natAbs b.natAbs ≤ 9223372036854775807
  · exact ⟨_, _, tell_drew fun w => gcd_ok a b w ha1 ha2 hb1 hb2 c, tell_pure fun w => (rgcd_any a b w ha1 ha2 hb1 hb2).1 c⟩
  · have m : Nat.gcd a.natAbs b.natAbs ≤ 9223372036854775808 := by
      rcases Nat.eq_zero_or_pos a.natAbs with z | z
      · rw [z, Nat.gcd_zero_left]; omega
      · have := Nat.gcd_le_left b.natAbs z; omega
    exact ⟨_, _, tell_drew fun w => gcd_over a b w ha1 ha2 hb1 hb2 (by omega) m, tell_pure fun w => (rgcd_any a b w ha1 ha2 hb1 hb2).2 (by omega) m⟩
theorem lcms_same (a b : Int) (ha1 : -9223372036854775808 ≤ a) (ha2 : a ≤ 9223372036854775807) (hb1 : -9223372036854775808 ≤ b) (hb2 : b ≤ 9223372036854775807) :
    ∃ x e, Tell2 19 a b x e ∧ Tell2 20 a b x e := by
  by_cases z : a = 0 ∨ b = 0
  · exact ⟨_, _, tell_pure fun w => lcm_zero a b w z, tell_pure fun w => rlcm_zero a b w z⟩
  · have za : a ≠ 0 := fun h => z (.inl h)
    have zb : b ≠ 0 := fun h => z (.inr h)
    have M := fun w => rlcm_go a b w ha1 ha2 hb1 hb2 za zb
    by_cases c : lcmN a b ≤ 9223372036854775807
    · refine ⟨_, _, tell_drew fun w => lcm_ok a b w ha1 ha2 hb1 hb2 za zb c, Lib.hid fun w => ?_⟩
      have m := M w
      rw [numE_pos _ c] at m
      exact m
    · refine ⟨_, _, tell_drew fun w => lcm_over a b w ha1 ha2 hb1 hb2 za zb (by omega), Lib.hid fun w => ?_⟩
      have m := M w
      rcases (show 9223372036854775808 < lcmN a b ∨ lcmN a b = 9223372036854775808 by omega) with d | d
      · rw [numE_over _ _ d] at m
        exact m
      · rw [d, numE_least] at m
        exact m
theorem floors_same (a b : Int) (ha1 : -9223372036854775808 ≤ a) (ha2 : a ≤ 9223372036854775807) (hb1 : -9223372036854775808 ≤ b) (hb2 : b ≤ 9223372036854775807) :
    ∃ q r e, Tell3 15 a b q r e ∧ Tell3 16 a b q r e := by
  by_cases z : b = 0
  · subst z
    exact ⟨_, _, _, tell_pure fun w => floor_zero a w, tell_pure fun w => rfloor_zero a w⟩
  · by_cases o : b = -1
    · subst o
      by_cases m : a = -9223372036854775808
      · subst m
        exact ⟨_, _, _, tell_pure fun w => floor_over w, Lib.hid fun w => rfloor_one _ _ _ (fun w => (rsub_any 0 (-9223372036854775808) (by omega) (by omega) (by omega) (by omega)).2 w (by omega)) w⟩
      · have U := fl_unique (a := a) (b := -1) (q := -a) (r := 0) (by omega) (by omega)
        refine ⟨_, _, _, tell_drew fun w => floor_ok a (-1) w ha1 ha2 hb1 hb2 z (by omega), Lib.hid fun w => ?_⟩
        rw [← U.1, ← U.2]
        have S := fun w => (rsub_any 0 a (by omega) (by omega) ha1 ha2).1 w (by omega) (by omega)
        rw [show (0 : Int) - a = -a by omega] at S
        exact rfloor_one a (-a) 0 S w
    · exact ⟨_, _, _, tell_drew fun w => floor_ok a b w ha1 ha2 hb1 hb2 z (by omega), Lib.hid fun w => rfloor_ok a b ha1 ha2 hb1 hb2 z o w⟩

theorem tells_law (a b : Int) (w : World) (ha1 : -9223372036854775808 ≤ a) (ha2 : a ≤ 9223372036854775807) (hb1 : -9223372036854775808 ≤ b) (hb2 : b ≤ 9223372036854775807) :
    Calls Try.prog 3 #[.int .i64 a, .int .i64 b] w fun e w' => e = .returned (.bool true) ∧ Below w.heap.size w w' := by
  obtain ⟨x1, e1, A1, A2⟩ := adds_same a b ha1 ha2 hb1 hb2
  obtain ⟨x2, e2, B1, B2⟩ := subs_same a b ha1 ha2 hb1 hb2
  obtain ⟨x3, e3, C1, C2⟩ := muls_same a b ha1 ha2 hb1 hb2
  obtain ⟨q, r, e4, D1, D2⟩ := floors_same a b ha1 ha2 hb1 hb2
  obtain ⟨x5, e5, E1, E2⟩ := gcds_same a b ha1 ha2 hb1 hb2
  obtain ⟨x6, e6, F1, F2⟩ := lcms_same a b ha1 ha2 hb1 hb2
  exact tells_walk a b w x1 e1 x2 e2 x3 e3 q r e4 x5 e5 x6 e6 A1 A2 B1 B2 C1 C2 D1 D2 E1 E2 F1 F2
end Go.Proofs.Ytplbdfdpcgmcjaa
