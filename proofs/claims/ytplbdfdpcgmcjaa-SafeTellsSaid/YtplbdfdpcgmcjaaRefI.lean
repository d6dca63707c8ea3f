/- Contracts of the document's own answer for layer 1: Lcm. -/
import Derived.Test.YtplbdfdpcgmcjaaRefH
namespace Go.Proofs.Ytplbdfdpcgmcjaa
set_option linter.unusedVariables false
set_option linter.unusedSimpArgs false
open Go.ChangeShapes Go.WideShapes Go.ChangeAt Go.RowKit
open Long (dig)

theorem rlcm_zero (a b : Int) (w : World) (h : a = 0 ∨ b = 0) :
    Calls Try.prog 20 #[.int .i64 a, .int .i64 b] w fun e w' => e = .returned (.tuple #[.int .i64 0, .int .i64 0]) ∧ w = w' := by
  by_cases c : a = 0
  · subst c
    go_enter Try.func20, Try.ntmps20
    go_wp2
    go_returns
    exact ⟨rfl, rfl⟩
  · have hb := h.resolve_left c
    subst hb
    have d : (a == 0) = false := by simpa using c
    clear h
    go_enter Try.func20, Try.ntmps20
    go_wp2
    go_returns
    exact ⟨rfl, rfl⟩

theorem of_zero (w : World) : Calls Try.prog 32 #[.int .i64 0] w fun e w' => e = .returned (.agg #[.bool false, .int .u32 0, .int .u32 0, .int .u32 0, .int .u32 0, .int .u32 0, .int .u32 0, .int .u32 0, .int .u32 0, .int .u32 0]) ∧ Below w.heap.size w w' := by
  have h := of_any 0 w (by omega) (by omega)
  rw [show (0 : Int).natAbs = 0 from rfl, Long.dig_zero, Long.dig_zero, Long.dig_zero, Long.dig_zero, Long.dig_zero, Long.dig_zero, Long.dig_zero, Long.dig_zero, Long.dig_zero] at h
  exact h

set_option maxRecDepth 100000 in
set_option maxHeartbeats 8000000 in
theorem rlcm_go (a b : Int) (w : World) (ha1 : -9223372036854775808 ≤ a) (ha2 : a ≤ 9223372036854775807) (hb1 : -9223372036854775808 ≤ b) (hb2 : b ≤ 9223372036854775807) (ha : a ≠ 0) (hb : b ≠ 0) :
    Calls Try.prog 20 #[.int .i64 a, .int .i64 b] w fun e w' => e = numE false (lcmN a b) ∧ Below w.heap.size w w' := by
  have SA := Lib.hid (fun w => size_any a w ha1 ha2)
  have SB := Lib.hid (fun w => size_any b w hb1 hb2)
  have C := Lib.hid (fun w => common_any a.natAbs b.natAbs (by omega) (by omega) w)
  have B := Lib.hid (fun w => of_any b w hb1 hb2)
  have hg : 1 ≤ Nat.gcd a.natAbs b.natAbs := Nat.gcd_pos_of_pos_left _ (by omega)
  obtain ⟨N, hN⟩ : ∃ N, a.natAbs / Nat.gcd a.natAbs b.natAbs = N := ⟨_, rfl⟩
  have hNle : N ≤ 9223372036854775808 := by
    have := Nat.div_le_self a.natAbs (Nat.gcd a.natAbs b.natAbs)
    omega
  have hL : lcmN a b = N * b.natAbs := by unfold lcmN; rw [hN]
  have hq : ((a.natAbs : Nat) : Int) / ((Nat.gcd a.natAbs b.natAbs : Nat) : Int) = (N : Int) := by rw [← Int.natCast_ediv, hN]
  have P := Lib.hid (fun w => product_any false false false rfl N b.natAbs w (by omega) (by omega))
  have le : N * b.natAbs ≤ 9223372036854775808 * 9223372036854775808 := Nat.mul_le_mul (by omega) (by omega)
  obtain ⟨x, y, hxy⟩ : ∃ x y, numE false (N * b.natAbs) = .returned (.tuple #[.int .i64 x, .int .i64 y]) := by
    unfold numE
    split
    · exact ⟨_, _, rfl⟩
    · split
      · exact ⟨_, _, rfl⟩
      · exact ⟨_, _, rfl⟩
  have NU := fun w => number_any false (N * b.natAbs) w (by omega)
  rw [hxy] at NU
  rw [hL, hxy]
  have NU := Lib.hid NU
  have z1 : (a == 0) = false := by simpa using ha
  have z2 : (b == 0) = false := by simpa using hb
  have hg' : 1 ≤ ((Nat.gcd a.natAbs b.natAbs : Nat) : Int) := by omega
  have HA : ((a.natAbs : Nat) : Int) ≤ 9223372036854775808 := by omega
  have HN2 : (N : Int) ≤ 9223372036854775808 := by omega
  obtain ⟨Q, hQ⟩ : ∃ Q : Nat → Nat, Hid (∀ k, Q k = N / 65536 ^ k) := ⟨fun k => N / 65536 ^ k, Lib.hid fun _ => rfl⟩
  have H65 := Lib.hid (show N = Q 0 by rw [hQ.out 0]; simp)
  have EE := Lib.hid (show ∀ k, Q (k + 1) = Q k / 65536 from fun k => by rw [hQ.out (k + 1), hQ.out k, Nat.pow_succ, Nat.div_div_eq_div_mul])
  have ED := Lib.hid (show ∀ k, dig N k = Q k % 65536 from fun k => by rw [hQ.out k]; rfl)
  have D4 := Lib.hid (show ∀ k, 4 ≤ k → dig N k = 0 from fun k hk => dig_high N k (by omega) hk)
  have LQ := Lib.hid (show ∀ k, Q k ≤ 9223372036854775808 from fun k => by rw [hQ.out k]; exact Nat.le_trans (Nat.div_le_self _ _) hNle)
  generalize Nat.gcd a.natAbs b.natAbs = g at *
  generalize a.natAbs = A at *
  clear le hL hN hNle ha hb hQ
  go_enter Try.func20, Try.ntmps20
  go_wp2_with (first
    | (go_at_call 40; (with_reducible refine (SA.out _).mono ?_); rintro e w' ⟨rfl, rfl⟩)
    | (go_at_call 40; (with_reducible refine (SB.out _).mono ?_); rintro e w' ⟨rfl, rfl⟩)
    | (go_at_call 39; (with_reducible refine (C.out _).mono ?_); rintro e w' ⟨rfl, rfl⟩)
    | (go_at_call 32; (with_reducible refine (of_zero _).mono ?_); rintro e w1 ⟨rfl, hb1⟩; have H1 := Lib.hid hb1; clear hb1)
    | (go_at_call 32; (with_reducible refine (B.out _).mono ?_); rintro e w2 ⟨rfl, hb2⟩; have H2 := Lib.hid hb2; clear hb2))
  have hb := H2.out
  have lt : w1.heap.size < (w1.alloc (.cells #[.bool false, .int .u32 0, .int .u32 0, .int .u32 0, .int .u32 0, .int .u32 0, .int .u32 0, .int .u32 0, .int .u32 0, .int .u32 0] 43)).heap.size := by simp
  have lt2 : w1.heap.size < w2.heap.size := Nat.lt_of_lt_of_le lt hb.size
  have g0 : w2.cell? ⟨w1.heap.size, 0, none⟩ = some (.bool false) := by (rw [hb.cell (p := ⟨w1.heap.size, 0, none⟩) lt]; go_simp)
  have f0 : w2.frozen? ⟨w1.heap.size, 0, none⟩ = false := by (rw [hb.frozen (p := ⟨w1.heap.size, 0, none⟩) lt]; go_simp)
  have g1 : w2.cell? ⟨w1.heap.size, 1, none⟩ = some (.int .u32 0) := by (rw [hb.cell (p := ⟨w1.heap.size, 1, none⟩) lt]; go_simp)
  have f1 : w2.frozen? ⟨w1.heap.size, 1, none⟩ = false := by (rw [hb.frozen (p := ⟨w1.heap.size, 1, none⟩) lt]; go_simp)
  have g2 : w2.cell? ⟨w1.heap.size, 2, none⟩ = some (.int .u32 0) := by (rw [hb.cell (p := ⟨w1.heap.size, 2, none⟩) lt]; go_simp)
  have f2 : w2.frozen? ⟨w1.heap.size, 2, none⟩ = false := by (rw [hb.frozen (p := ⟨w1.heap.size, 2, none⟩) lt]; go_simp)
  have g3 : w2.cell? ⟨w1.heap.size, 3, none⟩ = some (.int .u32 0) := by (rw [hb.cell (p := ⟨w1.heap.size, 3, none⟩) lt]; go_simp)
  have f3 : w2.frozen? ⟨w1.heap.size, 3, none⟩ = false := by (rw [hb.frozen (p := ⟨w1.heap.size, 3, none⟩) lt]; go_simp)
  have g4 : w2.cell? ⟨w1.heap.size, 4, none⟩ = some (.int .u32 0) := by (rw [hb.cell (p := ⟨w1.heap.size, 4, none⟩) lt]; go_simp)
  have f4 : w2.frozen? ⟨w1.heap.size, 4, none⟩ = false := by (rw [hb.frozen (p := ⟨w1.heap.size, 4, none⟩) lt]; go_simp)
  have g5 : w2.cell? ⟨w1.heap.size, 5, none⟩ = some (.int .u32 0) := by (rw [hb.cell (p := ⟨w1.heap.size, 5, none⟩) lt]; go_simp)
  have f5 : w2.frozen? ⟨w1.heap.size, 5, none⟩ = false := by (rw [hb.frozen (p := ⟨w1.heap.size, 5, none⟩) lt]; go_simp)
  have g6 : w2.cell? ⟨w1.heap.size, 6, none⟩ = some (.int .u32 0) := by (rw [hb.cell (p := ⟨w1.heap.size, 6, none⟩) lt]; go_simp)
  have f6 : w2.frozen? ⟨w1.heap.size, 6, none⟩ = false := by (rw [hb.frozen (p := ⟨w1.heap.size, 6, none⟩) lt]; go_simp)
  have g7 : w2.cell? ⟨w1.heap.size, 7, none⟩ = some (.int .u32 0) := by (rw [hb.cell (p := ⟨w1.heap.size, 7, none⟩) lt]; go_simp)
  have f7 : w2.frozen? ⟨w1.heap.size, 7, none⟩ = false := by (rw [hb.frozen (p := ⟨w1.heap.size, 7, none⟩) lt]; go_simp)
  have g8 : w2.cell? ⟨w1.heap.size, 8, none⟩ = some (.int .u32 0) := by (rw [hb.cell (p := ⟨w1.heap.size, 8, none⟩) lt]; go_simp)
  have f8 : w2.frozen? ⟨w1.heap.size, 8, none⟩ = false := by (rw [hb.frozen (p := ⟨w1.heap.size, 8, none⟩) lt]; go_simp)
  have g9 : w2.cell? ⟨w1.heap.size, 9, none⟩ = some (.int .u32 0) := by (rw [hb.cell (p := ⟨w1.heap.size, 9, none⟩) lt]; go_simp)
  have f9 : w2.frozen? ⟨w1.heap.size, 9, none⟩ = false := by (rw [hb.frozen (p := ⟨w1.heap.size, 9, none⟩) lt]; go_simp)
  clear hb lt
  go_loopw [6, 9] (fun nn ii wr => (ii = .int .i64 0 ∧ nn = .int .u64 ((Q 0 : Nat) : Int) ∧ wr = w2.alloc (.cells #[.bool false, .int .u32 (dig b.natAbs 0 : Nat), .int .u32 (dig b.natAbs 1 : Nat), .int .u32 (dig b.natAbs 2 : Nat), .int .u32 (dig b.natAbs 3 : Nat), .int .u32 (dig b.natAbs 4 : Nat), .int .u32 (dig b.natAbs 5 : Nat), .int .u32 (dig b.natAbs 6 : Nat), .int .u32 (dig b.natAbs 7 : Nat), .int .u32 (dig b.natAbs 8 : Nat)] 43)) ∨ (ii = .int .i64 1 ∧ nn = .int .u64 ((Q 1 : Nat) : Int) ∧ wr = (w2.setCell ⟨w1.heap.size, 1, none⟩ (.int .u32 (dig N 0 : Nat))).alloc (.cells #[.bool false, .int .u32 (dig b.natAbs 0 : Nat), .int .u32 (dig b.natAbs 1 : Nat), .int .u32 (dig b.natAbs 2 : Nat), .int .u32 (dig b.natAbs 3 : Nat), .int .u32 (dig b.natAbs 4 : Nat), .int .u32 (dig b.natAbs 5 : Nat), .int .u32 (dig b.natAbs 6 : Nat), .int .u32 (dig b.natAbs 7 : Nat), .int .u32 (dig b.natAbs 8 : Nat)] 43)) ∨ (ii = .int .i64 2 ∧ nn = .int .u64 ((Q 2 : Nat) : Int) ∧ wr = ((w2.setCell ⟨w1.heap.size, 1, none⟩ (.int .u32 (dig N 0 : Nat))).setCell ⟨w1.heap.size, 2, none⟩ (.int .u32 (dig N 1 : Nat))).alloc (.cells #[.bool false, .int .u32 (dig b.natAbs 0 : Nat), .int .u32 (dig b.natAbs 1 : Nat), .int .u32 (dig b.natAbs 2 : Nat), .int .u32 (dig b.natAbs 3 : Nat), .int .u32 (dig b.natAbs 4 : Nat), .int .u32 (dig b.natAbs 5 : Nat), .int .u32 (dig b.natAbs 6 : Nat), .int .u32 (dig b.natAbs 7 : Nat), .int .u32 (dig b.natAbs 8 : Nat)] 43)) ∨ (ii = .int .i64 3 ∧ nn = .int .u64 ((Q 3 : Nat) : Int) ∧ wr = (((w2.setCell ⟨w1.heap.size, 1, none⟩ (.int .u32 (dig N 0 : Nat))).setCell ⟨w1.heap.size, 2, none⟩ (.int .u32 (dig N 1 : Nat))).setCell ⟨w1.heap.size, 3, none⟩ (.int .u32 (dig N 2 : Nat))).alloc (.cells #[.bool false, .int .u32 (dig b.natAbs 0 : Nat), .int .u32 (dig b.natAbs 1 : Nat), .int .u32 (dig b.natAbs 2 : Nat), .int .u32 (dig b.natAbs 3 : Nat), .int .u32 (dig b.natAbs 4 : Nat), .int .u32 (dig b.natAbs 5 : Nat), .int .u32 (dig b.natAbs 6 : Nat), .int .u32 (dig b.natAbs 7 : Nat), .int .u32 (dig b.natAbs 8 : Nat)] 43)) ∨ (ii = .int .i64 4 ∧ nn = .int .u64 ((Q 4 : Nat) : Int) ∧ wr = ((((w2.setCell ⟨w1.heap.size, 1, none⟩ (.int .u32 (dig N 0 : Nat))).setCell ⟨w1.heap.size, 2, none⟩ (.int .u32 (dig N 1 : Nat))).setCell ⟨w1.heap.size, 3, none⟩ (.int .u32 (dig N 2 : Nat))).setCell ⟨w1.heap.size, 4, none⟩ (.int .u32 (dig N 3 : Nat))).alloc (.cells #[.bool false, .int .u32 (dig b.natAbs 0 : Nat), .int .u32 (dig b.natAbs 1 : Nat), .int .u32 (dig b.natAbs 2 : Nat), .int .u32 (dig b.natAbs 3 : Nat), .int .u32 (dig b.natAbs 4 : Nat), .int .u32 (dig b.natAbs 5 : Nat), .int .u32 (dig b.natAbs 6 : Nat), .int .u32 (dig b.natAbs 7 : Nat), .int .u32 (dig b.natAbs 8 : Nat)] 43))) (fun _ ii _ => (5 - intOf ii).toNat)
  case atStart => exact .inl ⟨rfl, by rw [← H65.out], rfl⟩
  case round =>
    rcases hrel with ⟨rfl, rfl, rfl⟩ | ⟨rfl, rfl, rfl⟩ | ⟨rfl, rfl, rfl⟩ | ⟨rfl, rfl, rfl⟩ | ⟨rfl, rfl, rfl⟩
    · have E1 : ((Q 0 : Nat) : Int) % 65536 = ((dig N 0 : Nat) : Int) := by rw [ED.out 0]; omega
      have E2 : ((Q 0 : Nat) : Int) / 65536 = ((Q 1 : Nat) : Int) := by rw [EE.out 0]; omega
      have lq := LQ.out 0
      have dl := Long.dig_lt N 0
      go_wp2
      all_goals go_roundw
      case rel => exact .inr (.inl ⟨rfl, by first | rfl | trivial | rw [E2], by first | rfl | trivial | rw [E1]⟩)
      case measure => simp [intOf]
    · have E1 : ((Q 1 : Nat) : Int) % 65536 = ((dig N 1 : Nat) : Int) := by rw [ED.out 1]; omega
      have E2 : ((Q 1 : Nat) : Int) / 65536 = ((Q 2 : Nat) : Int) := by rw [EE.out 1]; omega
      have lq := LQ.out 1
      have dl := Long.dig_lt N 1
      go_wp2
      all_goals go_roundw
      case rel => exact .inr (.inr (.inl ⟨rfl, by first | rfl | trivial | rw [E2], by first | rfl | trivial | rw [E1]⟩))
      case measure => simp [intOf]
    · have E1 : ((Q 2 : Nat) : Int) % 65536 = ((dig N 2 : Nat) : Int) := by rw [ED.out 2]; omega
      have E2 : ((Q 2 : Nat) : Int) / 65536 = ((Q 3 : Nat) : Int) := by rw [EE.out 2]; omega
      have lq := LQ.out 2
      have dl := Long.dig_lt N 2
      go_wp2
      all_goals go_roundw
      case rel => exact .inr (.inr (.inr (.inl ⟨rfl, by first | rfl | trivial | rw [E2], by first | rfl | trivial | rw [E1]⟩)))
      case measure => simp [intOf]
    · have E1 : ((Q 3 : Nat) : Int) % 65536 = ((dig N 3 : Nat) : Int) := by rw [ED.out 3]; omega
      have E2 : ((Q 3 : Nat) : Int) / 65536 = ((Q 4 : Nat) : Int) := by rw [EE.out 3]; omega
      have lq := LQ.out 3
      have dl := Long.dig_lt N 3
      go_wp2
      all_goals go_roundw
      case rel => exact .inr (.inr (.inr (.inr (⟨rfl, by first | rfl | trivial | rw [E2], by first | rfl | trivial | rw [E1]⟩))))
      case measure => simp [intOf]
    · have d4 := D4.out 4 (by omega)
      have d5 := D4.out 5 (by omega)
      have d6 := D4.out 6 (by omega)
      have d7 := D4.out 7 (by omega)
      have d8 := D4.out 8 (by omega)
      have Pd : ∀ w, Calls Try.prog 36 #[.agg #[.bool false, .int .u32 (dig N 0 : Nat), .int .u32 (dig N 1 : Nat), .int .u32 (dig N 2 : Nat), .int .u32 (dig N 3 : Nat), .int .u32 0, .int .u32 0, .int .u32 0, .int .u32 0, .int .u32 0], .agg #[.bool false, .int .u32 (dig b.natAbs 0 : Nat), .int .u32 (dig b.natAbs 1 : Nat), .int .u32 (dig b.natAbs 2 : Nat), .int .u32 (dig b.natAbs 3 : Nat), .int .u32 (dig b.natAbs 4 : Nat), .int .u32 (dig b.natAbs 5 : Nat), .int .u32 (dig b.natAbs 6 : Nat), .int .u32 (dig b.natAbs 7 : Nat), .int .u32 (dig b.natAbs 8 : Nat)]] w fun e w' => e = .returned (.agg #[.bool false, .int .u32 (dig (N * b.natAbs) 0 : Nat), .int .u32 (dig (N * b.natAbs) 1 : Nat), .int .u32 (dig (N * b.natAbs) 2 : Nat), .int .u32 (dig (N * b.natAbs) 3 : Nat), .int .u32 (dig (N * b.natAbs) 4 : Nat), .int .u32 (dig (N * b.natAbs) 5 : Nat), .int .u32 (dig (N * b.natAbs) 6 : Nat), .int .u32 (dig (N * b.natAbs) 7 : Nat), .int .u32 (dig (N * b.natAbs) 8 : Nat)]) ∧ Below w.heap.size w w' := by
        intro w
        have h := P.out w
        rw [d4, d5, d6, d7, d8] at h
        exact h
      have PD := Lib.hid Pd
      clear Pd d4 d5 d6 d7 d8
      obtain ⟨wf, hwf, r0, r1, r2, r3, r4, r5, r6, r7, r8, r9, hsz, bf⟩ : ∃ wf, ((((w2.setCell ⟨w1.heap.size, 1, none⟩ (.int .u32 (dig N 0 : Nat))).setCell ⟨w1.heap.size, 2, none⟩ (.int .u32 (dig N 1 : Nat))).setCell ⟨w1.heap.size, 3, none⟩ (.int .u32 (dig N 2 : Nat))).setCell ⟨w1.heap.size, 4, none⟩ (.int .u32 (dig N 3 : Nat))) = wf ∧ wf.cell? ⟨w1.heap.size, 0, none⟩ = some (.bool false) ∧ wf.cell? ⟨w1.heap.size, 1, none⟩ = some (.int .u32 (dig N 0 : Nat)) ∧ wf.cell? ⟨w1.heap.size, 2, none⟩ = some (.int .u32 (dig N 1 : Nat)) ∧ wf.cell? ⟨w1.heap.size, 3, none⟩ = some (.int .u32 (dig N 2 : Nat)) ∧ wf.cell? ⟨w1.heap.size, 4, none⟩ = some (.int .u32 (dig N 3 : Nat)) ∧ wf.cell? ⟨w1.heap.size, 5, none⟩ = some (.int .u32 0) ∧ wf.cell? ⟨w1.heap.size, 6, none⟩ = some (.int .u32 0) ∧ wf.cell? ⟨w1.heap.size, 7, none⟩ = some (.int .u32 0) ∧ wf.cell? ⟨w1.heap.size, 8, none⟩ = some (.int .u32 0) ∧ wf.cell? ⟨w1.heap.size, 9, none⟩ = some (.int .u32 0) ∧ wf.heap.size = w2.heap.size ∧ Hid (Below w1.heap.size w2 wf) := by
        refine ⟨_, rfl, ?_, ?_, ?_, ?_, ?_, ?_, ?_, ?_, ?_, ?_, ?_, Lib.hid (by (iterate 4 (refine Below.setCell (p := ⟨w1.heap.size, _, none⟩) ?_ (Nat.le_refl (w1.heap.size)) _)); exact Below.refl _ _)⟩ <;> go_simp
      rw [hwf]
      have y0 : (wf.alloc (.cells #[.bool false, .int .u32 (dig b.natAbs 0 : Nat), .int .u32 (dig b.natAbs 1 : Nat), .int .u32 (dig b.natAbs 2 : Nat), .int .u32 (dig b.natAbs 3 : Nat), .int .u32 (dig b.natAbs 4 : Nat), .int .u32 (dig b.natAbs 5 : Nat), .int .u32 (dig b.natAbs 6 : Nat), .int .u32 (dig b.natAbs 7 : Nat), .int .u32 (dig b.natAbs 8 : Nat)] 43)).cell? ⟨w2.heap.size, 0, none⟩ = some (.bool false) := by (rw [← hsz]; go_simp)
      have y1 : (wf.alloc (.cells #[.bool false, .int .u32 (dig b.natAbs 0 : Nat), .int .u32 (dig b.natAbs 1 : Nat), .int .u32 (dig b.natAbs 2 : Nat), .int .u32 (dig b.natAbs 3 : Nat), .int .u32 (dig b.natAbs 4 : Nat), .int .u32 (dig b.natAbs 5 : Nat), .int .u32 (dig b.natAbs 6 : Nat), .int .u32 (dig b.natAbs 7 : Nat), .int .u32 (dig b.natAbs 8 : Nat)] 43)).cell? ⟨w2.heap.size, 1, none⟩ = some (.int .u32 (dig b.natAbs 0 : Nat)) := by (rw [← hsz]; go_simp)
      have y2 : (wf.alloc (.cells #[.bool false, .int .u32 (dig b.natAbs 0 : Nat), .int .u32 (dig b.natAbs 1 : Nat), .int .u32 (dig b.natAbs 2 : Nat), .int .u32 (dig b.natAbs 3 : Nat), .int .u32 (dig b.natAbs 4 : Nat), .int .u32 (dig b.natAbs 5 : Nat), .int .u32 (dig b.natAbs 6 : Nat), .int .u32 (dig b.natAbs 7 : Nat), .int .u32 (dig b.natAbs 8 : Nat)] 43)).cell? ⟨w2.heap.size, 2, none⟩ = some (.int .u32 (dig b.natAbs 1 : Nat)) := by (rw [← hsz]; go_simp)
      have y3 : (wf.alloc (.cells #[.bool false, .int .u32 (dig b.natAbs 0 : Nat), .int .u32 (dig b.natAbs 1 : Nat), .int .u32 (dig b.natAbs 2 : Nat), .int .u32 (dig b.natAbs 3 : Nat), .int .u32 (dig b.natAbs 4 : Nat), .int .u32 (dig b.natAbs 5 : Nat), .int .u32 (dig b.natAbs 6 : Nat), .int .u32 (dig b.natAbs 7 : Nat), .int .u32 (dig b.natAbs 8 : Nat)] 43)).cell? ⟨w2.heap.size, 3, none⟩ = some (.int .u32 (dig b.natAbs 2 : Nat)) := by (rw [← hsz]; go_simp)
      have y4 : (wf.alloc (.cells #[.bool false, .int .u32 (dig b.natAbs 0 : Nat), .int .u32 (dig b.natAbs 1 : Nat), .int .u32 (dig b.natAbs 2 : Nat), .int .u32 (dig b.natAbs 3 : Nat), .int .u32 (dig b.natAbs 4 : Nat), .int .u32 (dig b.natAbs 5 : Nat), .int .u32 (dig b.natAbs 6 : Nat), .int .u32 (dig b.natAbs 7 : Nat), .int .u32 (dig b.natAbs 8 : Nat)] 43)).cell? ⟨w2.heap.size, 4, none⟩ = some (.int .u32 (dig b.natAbs 3 : Nat)) := by (rw [← hsz]; go_simp)
      have y5 : (wf.alloc (.cells #[.bool false, .int .u32 (dig b.natAbs 0 : Nat), .int .u32 (dig b.natAbs 1 : Nat), .int .u32 (dig b.natAbs 2 : Nat), .int .u32 (dig b.natAbs 3 : Nat), .int .u32 (dig b.natAbs 4 : Nat), .int .u32 (dig b.natAbs 5 : Nat), .int .u32 (dig b.natAbs 6 : Nat), .int .u32 (dig b.natAbs 7 : Nat), .int .u32 (dig b.natAbs 8 : Nat)] 43)).cell? ⟨w2.heap.size, 5, none⟩ = some (.int .u32 (dig b.natAbs 4 : Nat)) := by (rw [← hsz]; go_simp)
      have y6 : (wf.alloc (.cells #[.bool false, .int .u32 (dig b.natAbs 0 : Nat), .int .u32 (dig b.natAbs 1 : Nat), .int .u32 (dig b.natAbs 2 : Nat), .int .u32 (dig b.natAbs 3 : Nat), .int .u32 (dig b.natAbs 4 : Nat), .int .u32 (dig b.natAbs 5 : Nat), .int .u32 (dig b.natAbs 6 : Nat), .int .u32 (dig b.natAbs 7 : Nat), .int .u32 (dig b.natAbs 8 : Nat)] 43)).cell? ⟨w2.heap.size, 6, none⟩ = some (.int .u32 (dig b.natAbs 5 : Nat)) := by (rw [← hsz]; go_simp)
      have y7 : (wf.alloc (.cells #[.bool false, .int .u32 (dig b.natAbs 0 : Nat), .int .u32 (dig b.natAbs 1 : Nat), .int .u32 (dig b.natAbs 2 : Nat), .int .u32 (dig b.natAbs 3 : Nat), .int .u32 (dig b.natAbs 4 : Nat), .int .u32 (dig b.natAbs 5 : Nat), .int .u32 (dig b.natAbs 6 : Nat), .int .u32 (dig b.natAbs 7 : Nat), .int .u32 (dig b.natAbs 8 : Nat)] 43)).cell? ⟨w2.heap.size, 7, none⟩ = some (.int .u32 (dig b.natAbs 6 : Nat)) := by (rw [← hsz]; go_simp)
      have y8 : (wf.alloc (.cells #[.bool false, .int .u32 (dig b.natAbs 0 : Nat), .int .u32 (dig b.natAbs 1 : Nat), .int .u32 (dig b.natAbs 2 : Nat), .int .u32 (dig b.natAbs 3 : Nat), .int .u32 (dig b.natAbs 4 : Nat), .int .u32 (dig b.natAbs 5 : Nat), .int .u32 (dig b.natAbs 6 : Nat), .int .u32 (dig b.natAbs 7 : Nat), .int .u32 (dig b.natAbs 8 : Nat)] 43)).cell? ⟨w2.heap.size, 8, none⟩ = some (.int .u32 (dig b.natAbs 7 : Nat)) := by (rw [← hsz]; go_simp)
      have y9 : (wf.alloc (.cells #[.bool false, .int .u32 (dig b.natAbs 0 : Nat), .int .u32 (dig b.natAbs 1 : Nat), .int .u32 (dig b.natAbs 2 : Nat), .int .u32 (dig b.natAbs 3 : Nat), .int .u32 (dig b.natAbs 4 : Nat), .int .u32 (dig b.natAbs 5 : Nat), .int .u32 (dig b.natAbs 6 : Nat), .int .u32 (dig b.natAbs 7 : Nat), .int .u32 (dig b.natAbs 8 : Nat)] 43)).cell? ⟨w2.heap.size, 9, none⟩ = some (.int .u32 (dig b.natAbs 8 : Nat)) := by (rw [← hsz]; go_simp)
      clear hsz
      have ltf : w1.heap.size < wf.heap.size := Nat.lt_of_lt_of_le lt2 bf.out.size
      clear hwf g0 f0 g1 f1 g2 f2 g3 f3 g4 f4 g5 f5 g6 f6 g7 f7 g8 f8 g9 f9
      go_wp2_with (first
        | (go_at_call 36; (with_reducible refine (PD.out _).mono ?_); rintro e w3 ⟨rfl, hb3⟩; have H3 := Lib.hid hb3; clear hb3)
        | (go_at_call 30; (with_reducible refine (NU.out _).mono ?_); rintro e w4 ⟨rfl, hb4⟩; have H4 := Lib.hid hb4; clear hb4))
      go_returns
      have z5 : Below w.heap.size w (w1.alloc (.cells #[.bool false, .int .u32 0, .int .u32 0, .int .u32 0, .int .u32 0, .int .u32 0, .int .u32 0, .int .u32 0, .int .u32 0, .int .u32 0] 43)) := H1.out.alloc H1.out.size _
      have z6 : Below w.heap.size w w2 := Below.trans z5 (H2.out.mono z5.size)
      have h1 := H1.out.size
      have z7 : Below w.heap.size w wf := Below.trans z6 (bf.out.mono h1)
      have z8 : Below w.heap.size w (wf.alloc (.cells #[.bool false, .int .u32 (dig b.natAbs 0 : Nat), .int .u32 (dig b.natAbs 1 : Nat), .int .u32 (dig b.natAbs 2 : Nat), .int .u32 (dig b.natAbs 3 : Nat), .int .u32 (dig b.natAbs 4 : Nat), .int .u32 (dig b.natAbs 5 : Nat), .int .u32 (dig b.natAbs 6 : Nat), .int .u32 (dig b.natAbs 7 : Nat), .int .u32 (dig b.natAbs 8 : Nat)] 43)) := z7.alloc z7.size _
      exact ⟨rfl, below_on (below_on z8 (Nat.le_refl _) H3.out) (Nat.le_refl _) H4.out⟩
end Go.Proofs.Ytplbdfdpcgmcjaa
