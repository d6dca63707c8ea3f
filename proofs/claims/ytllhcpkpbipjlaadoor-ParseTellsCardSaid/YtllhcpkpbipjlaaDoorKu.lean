/- R4 in one. -/
import Derived.Test.YtllhcpkpbipjlaaDoorKs
import Derived.Test.YtllhcpkpbipjlaaDoorKt
import Derived.Laws.IdiomStrings
namespace Go.Proofs.YtllhcpkpbipjlaaDoor
set_option linter.unusedVariables false
set_option linter.unusedSimpArgs false
open Go.ChangeShapes Go.WideShapes Go.ChangeAt Go.RowKit
open Cal (dg)

theorem conv_dg (k : Nat) (hk : k < 10) (W : World) (b : Nat) (h : W.cell? ⟨b, 0, none⟩ = some (.int .u8 (48 + (k : Int)))) :
    (convert 115 9 (.slice (some ⟨b, 0, none⟩) 1 1)).run Tryd.prog W = .ok (.string ⟨#[dg k]⟩) W :=
  run_convert_bytes_back (P := Tryd.prog) W 115 9 5 ⟨b, 0, none⟩ 1 [dg k] Tryd.underlying115 Tryd.underlying5 Tryd.underlying9 (fun j hj => by
    have : j = 0 := by simp at hj; exact hj
    subst this
    rw [show ([dg k][0]).toNat = 48 + k from dg_nat hk]
    rw [show (((48 + k : Nat) : Int)) = 48 + (k : Int) by omega]
    exact h)

set_option maxHeartbeats 4000000 in
theorem digits_1 (n : Nat) (w : World) (hn : n < 100000) :
    Calls Tryd.prog 73 #[.int .i64 n, .int .i64 1] w fun e w' => e = .returned (.string ⟨#[dg (n % 10)]⟩) ∧ Below w.heap.size w w' := by
  obtain ⟨Q, hQ⟩ : ∃ Q : Nat → Nat, Hid (∀ k, Q k = n / 10 ^ k) := ⟨fun k => n / 10 ^ k, Lib.hid fun _ => rfl⟩
  have H0 := Lib.hid (show n = Q 0 by rw [hQ.out 0]; simp)
  have EE := Lib.hid (show ∀ k, Q (k + 1) = Q k / 10 from fun k => by rw [hQ.out (k + 1), hQ.out k, Nat.pow_succ, Nat.div_div_eq_div_mul])
  have LQ := Lib.hid (show ∀ k, Q k < 100000 from fun k => by rw [hQ.out k]; exact Nat.lt_of_le_of_lt (Nat.div_le_self _ _) hn)
  have RR := Lib.hid (show (.string ⟨#[dg (Q 0 % 10)]⟩ : Value) = .string ⟨#[dg (n % 10)]⟩ by simp only [hQ.out, Nat.reducePow, Nat.pow_zero, Nat.div_one])
  clear hQ hn
  go_enter Tryd.func73, Tryd.ntmps73
  go_wp2
  go_loopw [0, 5, 6] (fun nn ss ii wr => (ii = .int .i64 0 ∧ nn = .int .i64 ((Q 0 : Nat) : Int) ∧ ss = .string ⟨#[]⟩ ∧ Hid (Below w.heap.size w wr)) ∨ (ii = .int .i64 1 ∧ nn = .int .i64 ((Q 1 : Nat) : Int) ∧ ss = .string ⟨#[dg (Q 0 % 10)]⟩ ∧ Hid (Below w.heap.size w wr))) (fun _ _ ii _ => (2 - intOf ii).toNat)
  case atStart => exact .inl ⟨rfl, by rw [← H0.out], rfl, Lib.hid (Below.refl _ _)⟩
  case round =>
    rcases hrel with ⟨rfl, rfl, rfl, HB⟩ | ⟨rfl, rfl, rfl, HB⟩
    · have lq := LQ.out 0
      have E1 : ((Q 0 : Nat) : Int) % 10 = ((Q 0 % 10 : Nat) : Int) := by omega
      have E2 : ((Q 0 : Nat) : Int) / 10 = ((Q 1 : Nat) : Int) := by rw [EE.out 0]; omega
      have l1 : Q 0 % 10 < 10 := by omega
      obtain ⟨dd, hdd⟩ : ∃ dd, Q 0 % 10 = dd := ⟨_, rfl⟩
      rw [hdd] at E1 l1
      have kc := conv_dg dd l1
      have l2 : (dd : Int) ≤ 9 := by omega
      go_wp2
      all_goals go_roundw
      case rel => exact .inr (⟨rfl, by first | rfl | rw [E2], by (first | rfl | (rw [hdd]; rfl)), Lib.hid (HB.out.alloc HB.out.size _)⟩)
      case measure => simp [intOf]
    · go_wp2
      go_returns
      exact ⟨congrArg Ending.returned RR.out, HB.out⟩

set_option maxHeartbeats 4000000 in
theorem digits_2 (n : Nat) (w : World) (hn : n < 100000) :
    Calls Tryd.prog 73 #[.int .i64 n, .int .i64 2] w fun e w' => e = .returned (.string ⟨#[dg (n / 10 % 10), dg (n % 10)]⟩) ∧ Below w.heap.size w w' := by
  obtain ⟨Q, hQ⟩ : ∃ Q : Nat → Nat, Hid (∀ k, Q k = n / 10 ^ k) := ⟨fun k => n / 10 ^ k, Lib.hid fun _ => rfl⟩
  have H0 := Lib.hid (show n = Q 0 by rw [hQ.out 0]; simp)
  have EE := Lib.hid (show ∀ k, Q (k + 1) = Q k / 10 from fun k => by rw [hQ.out (k + 1), hQ.out k, Nat.pow_succ, Nat.div_div_eq_div_mul])
  have LQ := Lib.hid (show ∀ k, Q k < 100000 from fun k => by rw [hQ.out k]; exact Nat.lt_of_le_of_lt (Nat.div_le_self _ _) hn)
  have RR := Lib.hid (show (.string ⟨#[dg (Q 1 % 10), dg (Q 0 % 10)]⟩ : Value) = .string ⟨#[dg (n / 10 % 10), dg (n % 10)]⟩ by simp only [hQ.out, Nat.reducePow, Nat.pow_zero, Nat.div_one])
  clear hQ hn
  go_enter Tryd.func73, Tryd.ntmps73
  go_wp2
  go_loopw [0, 5, 6] (fun nn ss ii wr => (ii = .int .i64 0 ∧ nn = .int .i64 ((Q 0 : Nat) : Int) ∧ ss = .string ⟨#[]⟩ ∧ Hid (Below w.heap.size w wr)) ∨ (ii = .int .i64 1 ∧ nn = .int .i64 ((Q 1 : Nat) : Int) ∧ ss = .string ⟨#[dg (Q 0 % 10)]⟩ ∧ Hid (Below w.heap.size w wr)) ∨ (ii = .int .i64 2 ∧ nn = .int .i64 ((Q 2 : Nat) : Int) ∧ ss = .string ⟨#[dg (Q 1 % 10), dg (Q 0 % 10)]⟩ ∧ Hid (Below w.heap.size w wr))) (fun _ _ ii _ => (3 - intOf ii).toNat)
  case atStart => exact .inl ⟨rfl, by rw [← H0.out], rfl, Lib.hid (Below.refl _ _)⟩
  case round =>
    rcases hrel with ⟨rfl, rfl, rfl, HB⟩ | ⟨rfl, rfl, rfl, HB⟩ | ⟨rfl, rfl, rfl, HB⟩
    · have lq := LQ.out 0
      have E1 : ((Q 0 : Nat) : Int) % 10 = ((Q 0 % 10 : Nat) : Int) := by omega
      have E2 : ((Q 0 : Nat) : Int) / 10 = ((Q 1 : Nat) : Int) := by rw [EE.out 0]; omega
      have l1 : Q 0 % 10 < 10 := by omega
      obtain ⟨dd, hdd⟩ : ∃ dd, Q 0 % 10 = dd := ⟨_, rfl⟩
      rw [hdd] at E1 l1
      have kc := conv_dg dd l1
      have l2 : (dd : Int) ≤ 9 := by omega
      go_wp2
      all_goals go_roundw
      case rel => exact .inr (.inl ⟨rfl, by first | rfl | rw [E2], by (first | rfl | (rw [hdd]; rfl)), Lib.hid (HB.out.alloc HB.out.size _)⟩)
      case measure => simp [intOf]
    · have lq := LQ.out 1
      have E1 : ((Q 1 : Nat) : Int) % 10 = ((Q 1 % 10 : Nat) : Int) := by omega
      have E2 : ((Q 1 : Nat) : Int) / 10 = ((Q 2 : Nat) : Int) := by rw [EE.out 1]; omega
      have l1 : Q 1 % 10 < 10 := by omega
      obtain ⟨dd, hdd⟩ : ∃ dd, Q 1 % 10 = dd := ⟨_, rfl⟩
      rw [hdd] at E1 l1
      have kc := conv_dg dd l1
      have l2 : (dd : Int) ≤ 9 := by omega
      go_wp2
      all_goals go_roundw
      case rel => exact .inr (.inr (⟨rfl, by first | rfl | rw [E2], by (first | rfl | (rw [hdd]; rfl)), Lib.hid (HB.out.alloc HB.out.size _)⟩))
      case measure => simp [intOf]
    · go_wp2
      go_returns
      exact ⟨congrArg Ending.returned RR.out, HB.out⟩

set_option maxHeartbeats 4000000 in
theorem digits_3 (n : Nat) (w : World) (hn : n < 100000) :
    Calls Tryd.prog 73 #[.int .i64 n, .int .i64 3] w fun e w' => e = .returned (.string ⟨#[dg (n / 100 % 10), dg (n / 10 % 10), dg (n % 10)]⟩) ∧ Below w.heap.size w w' := by
  obtain ⟨Q, hQ⟩ : ∃ Q : Nat → Nat, Hid (∀ k, Q k = n / 10 ^ k) := ⟨fun k => n / 10 ^ k, Lib.hid fun _ => rfl⟩
  have H0 := Lib.hid (show n = Q 0 by rw [hQ.out 0]; simp)
  have EE := Lib.hid (show ∀ k, Q (k + 1) = Q k / 10 from fun k => by rw [hQ.out (k + 1), hQ.out k, Nat.pow_succ, Nat.div_div_eq_div_mul])
  have LQ := Lib.hid (show ∀ k, Q k < 100000 from fun k => by rw [hQ.out k]; exact Nat.lt_of_le_of_lt (Nat.div_le_self _ _) hn)
  have RR := Lib.hid (show (.string ⟨#[dg (Q 2 % 10), dg (Q 1 % 10), dg (Q 0 % 10)]⟩ : Value) = .string ⟨#[dg (n / 100 % 10), dg (n / 10 % 10), dg (n % 10)]⟩ by simp only [hQ.out, Nat.reducePow, Nat.pow_zero, Nat.div_one])
  clear hQ hn
  go_enter Tryd.func73, Tryd.ntmps73
  go_wp2
  go_loopw [0, 5, 6] (fun nn ss ii wr => (ii = .int .i64 0 ∧ nn = .int .i64 ((Q 0 : Nat) : Int) ∧ ss = .string ⟨#[]⟩ ∧ Hid (Below w.heap.size w wr)) ∨ (ii = .int .i64 1 ∧ nn = .int .i64 ((Q 1 : Nat) : Int) ∧ ss = .string ⟨#[dg (Q 0 % 10)]⟩ ∧ Hid (Below w.heap.size w wr)) ∨ (ii = .int .i64 2 ∧ nn = .int .i64 ((Q 2 : Nat) : Int) ∧ ss = .string ⟨#[dg (Q 1 % 10), dg (Q 0 % 10)]⟩ ∧ Hid (Below w.heap.size w wr)) ∨ (ii = .int .i64 3 ∧ nn = .int .i64 ((Q 3 : Nat) : Int) ∧ ss = .string ⟨#[dg (Q 2 % 10), dg (Q 1 % 10), dg (Q 0 % 10)]⟩ ∧ Hid (Below w.heap.size w wr))) (fun _ _ ii _ => (4 - intOf ii).toNat)
  case atStart => exact .inl ⟨rfl, by rw [← H0.out], rfl, Lib.hid (Below.refl _ _)⟩
  case round =>
    rcases hrel with ⟨rfl, rfl, rfl, HB⟩ | ⟨rfl, rfl, rfl, HB⟩ | ⟨rfl, rfl, rfl, HB⟩ | ⟨rfl, rfl, rfl, HB⟩
    · have lq := LQ.out 0
      have E1 : ((Q 0 : Nat) : Int) % 10 = ((Q 0 % 10 : Nat) : Int) := by omega
      have E2 : ((Q 0 : Nat) : Int) / 10 = ((Q 1 : Nat) : Int) := by rw [EE.out 0]; omega
      have l1 : Q 0 % 10 < 10 := by omega
      obtain ⟨dd, hdd⟩ : ∃ dd, Q 0 % 10 = dd := ⟨_, rfl⟩
      rw [hdd] at E1 l1
      have kc := conv_dg dd l1
      have l2 : (dd : Int) ≤ 9 := by omega
      go_wp2
      all_goals go_roundw
      case rel => exact .inr (.inl ⟨rfl, by first | rfl | rw [E2], by (first | rfl | (rw [hdd]; rfl)), Lib.hid (HB.out.alloc HB.out.size _)⟩)
      case measure => simp [intOf]
    · have lq := LQ.out 1
      have E1 : ((Q 1 : Nat) : Int) % 10 = ((Q 1 % 10 : Nat) : Int) := by omega
      have E2 : ((Q 1 : Nat) : Int) / 10 = ((Q 2 : Nat) : Int) := by rw [EE.out 1]; omega
      have l1 : Q 1 % 10 < 10 := by omega
      obtain ⟨dd, hdd⟩ : ∃ dd, Q 1 % 10 = dd := ⟨_, rfl⟩
      rw [hdd] at E1 l1
      have kc := conv_dg dd l1
      have l2 : (dd : Int) ≤ 9 := by omega
      go_wp2
      all_goals go_roundw
      case rel => exact .inr (.inr (.inl ⟨rfl, by first | rfl | rw [E2], by (first | rfl | (rw [hdd]; rfl)), Lib.hid (HB.out.alloc HB.out.size _)⟩))
      case measure => simp [intOf]
    · have lq := LQ.out 2
      have E1 : ((Q 2 : Nat) : Int) % 10 = ((Q 2 % 10 : Nat) : Int) := by omega
      have E2 : ((Q 2 : Nat) : Int) / 10 = ((Q 3 : Nat) : Int) := by rw [EE.out 2]; omega
      have l1 : Q 2 % 10 < 10 := by omega
      obtain ⟨dd, hdd⟩ : ∃ dd, Q 2 % 10 = dd := ⟨_, rfl⟩
      rw [hdd] at E1 l1
      have kc := conv_dg dd l1
      have l2 : (dd : Int) ≤ 9 := by omega
      go_wp2
      all_goals go_roundw
      case rel => exact .inr (.inr (.inr (⟨rfl, by first | rfl | rw [E2], by (first | rfl | (rw [hdd]; rfl)), Lib.hid (HB.out.alloc HB.out.size _)⟩)))
      case measure => simp [intOf]
    · go_wp2
      go_returns
      exact ⟨congrArg Ending.returned RR.out, HB.out⟩

set_option maxHeartbeats 4000000 in
theorem digits_4 (n : Nat) (w : World) (hn : n < 100000) :
    Calls Tryd.prog 73 #[.int .i64 n, .int .i64 4] w fun e w' => e = .returned (.string ⟨#[dg (n / 1000 % 10), dg (n / 100 % 10), dg (n / 10 % 10), dg (n % 10)]⟩) ∧ Below w.heap.size w w' := by
  obtain ⟨Q, hQ⟩ : ∃ Q : Nat → Nat, Hid (∀ k, Q k = n / 10 ^ k) := ⟨fun k => n / 10 ^ k, Lib.hid fun _ => rfl⟩
  have H0 := Lib.hid (show n = Q 0 by rw [hQ.out 0]; simp)
  have EE := Lib.hid (show ∀ k, Q (k + 1) = Q k / 10 from fun k => by rw [hQ.out (k + 1), hQ.out k, Nat.pow_succ, Nat.div_div_eq_div_mul])
  have LQ := Lib.hid (show ∀ k, Q k < 100000 from fun k => by rw [hQ.out k]; exact Nat.lt_of_le_of_lt (Nat.div_le_self _ _) hn)
  have RR := Lib.hid (show (.string ⟨#[dg (Q 3 % 10), dg (Q 2 % 10), dg (Q 1 % 10), dg (Q 0 % 10)]⟩ : Value) = .string ⟨#[dg (n / 1000 % 10), dg (n / 100 % 10), dg (n / 10 % 10), dg (n % 10)]⟩ by simp only [hQ.out, Nat.reducePow, Nat.pow_zero, Nat.div_one])
  clear hQ hn
  go_enter Tryd.func73, Tryd.ntmps73
  go_wp2
  go_loopw [0, 5, 6] (fun nn ss ii wr => (ii = .int .i64 0 ∧ nn = .int .i64 ((Q 0 : Nat) : Int) ∧ ss = .string ⟨#[]⟩ ∧ Hid (Below w.heap.size w wr)) ∨ (ii = .int .i64 1 ∧ nn = .int .i64 ((Q 1 : Nat) : Int) ∧ ss = .string ⟨#[dg (Q 0 % 10)]⟩ ∧ Hid (Below w.heap.size w wr)) ∨ (ii = .int .i64 2 ∧ nn = .int .i64 ((Q 2 : Nat) : Int) ∧ ss = .string ⟨#[dg (Q 1 % 10), dg (Q 0 % 10)]⟩ ∧ Hid (Below w.heap.size w wr)) ∨ (ii = .int .i64 3 ∧ nn = .int .i64 ((Q 3 : Nat) : Int) ∧ ss = .string ⟨#[dg (Q 2 % 10), dg (Q 1 % 10), dg (Q 0 % 10)]⟩ ∧ Hid (Below w.heap.size w wr)) ∨ (ii = .int .i64 4 ∧ nn = .int .i64 ((Q 4 : Nat) : Int) ∧ ss = .string ⟨#[dg (Q 3 % 10), dg (Q 2 % 10), dg (Q 1 % 10), dg (Q 0 % 10)]⟩ ∧ Hid (Below w.heap.size w wr))) (fun _ _ ii _ => (5 - intOf ii).toNat)
  case atStart => exact .inl ⟨rfl, by rw [← H0.out], rfl, Lib.hid (Below.refl _ _)⟩
  case round =>
    rcases hrel with ⟨rfl, rfl, rfl, HB⟩ | ⟨rfl, rfl, rfl, HB⟩ | ⟨rfl, rfl, rfl, HB⟩ | ⟨rfl, rfl, rfl, HB⟩ | ⟨rfl, rfl, rfl, HB⟩
    · have lq := LQ.out 0
      have E1 : ((Q 0 : Nat) : Int) % 10 = ((Q 0 % 10 : Nat) : Int) := by omega
      have E2 : ((Q 0 : Nat) : Int) / 10 = ((Q 1 : Nat) : Int) := by rw [EE.out 0]; omega
      have l1 : Q 0 % 10 < 10 := by omega
      obtain ⟨dd, hdd⟩ : ∃ dd, Q 0 % 10 = dd := ⟨_, rfl⟩
      rw [hdd] at E1 l1
      have kc := conv_dg dd l1
      have l2 : (dd : Int) ≤ 9 := by omega
      go_wp2
      all_goals go_roundw
      case rel => exact .inr (.inl ⟨rfl, by first | rfl | rw [E2], by (first | rfl | (rw [hdd]; rfl)), Lib.hid (HB.out.alloc HB.out.size _)⟩)
      case measure => simp [intOf]
    · have lq := LQ.out 1
      have E1 : ((Q 1 : Nat) : Int) % 10 = ((Q 1 % 10 : Nat) : Int) := by omega
      have E2 : ((Q 1 : Nat) : Int) / 10 = ((Q 2 : Nat) : Int) := by rw [EE.out 1]; omega
      have l1 : Q 1 % 10 < 10 := by omega
      obtain ⟨dd, hdd⟩ : ∃ dd, Q 1 % 10 = dd := ⟨_, rfl⟩
      rw [hdd] at E1 l1
      have kc := conv_dg dd l1
      have l2 : (dd : Int) ≤ 9 := by omega
      go_wp2
      all_goals go_roundw
      case rel => exact .inr (.inr (.inl ⟨rfl, by first | rfl | rw [E2], by (first | rfl | (rw [hdd]; rfl)), Lib.hid (HB.out.alloc HB.out.size _)⟩))
      case measure => simp [intOf]
    · have lq := LQ.out 2
      have E1 : ((Q 2 : Nat) : Int) % 10 = ((Q 2 % 10 : Nat) : Int) := by omega
      have E2 : ((Q 2 : Nat) : Int) / 10 = ((Q 3 : Nat) : Int) := by rw [EE.out 2]; omega
      have l1 : Q 2 % 10 < 10 := by omega
      obtain ⟨dd, hdd⟩ : ∃ dd, Q 2 % 10 = dd := ⟨_, rfl⟩
      rw [hdd] at E1 l1
      have kc := conv_dg dd l1
      have l2 : (dd : Int) ≤ 9 := by omega
      go_wp2
      all_goals go_roundw
      case rel => exact .inr (.inr (.inr (.inl ⟨rfl, by first | rfl | rw [E2], by (first | rfl | (rw [hdd]; rfl)), Lib.hid (HB.out.alloc HB.out.size _)⟩)))
      case measure => simp [intOf]
    · have lq := LQ.out 3
      have E1 : ((Q 3 : Nat) : Int) % 10 = ((Q 3 % 10 : Nat) : Int) := by omega
      have E2 : ((Q 3 : Nat) : Int) / 10 = ((Q 4 : Nat) : Int) := by rw [EE.out 3]; omega
      have l1 : Q 3 % 10 < 10 := by omega
      obtain ⟨dd, hdd⟩ : ∃ dd, Q 3 % 10 = dd := ⟨_, rfl⟩
      rw [hdd] at E1 l1
      have kc := conv_dg dd l1
      have l2 : (dd : Int) ≤ 9 := by omega
      go_wp2
      all_goals go_roundw
      case rel => exact .inr (.inr (.inr (.inr (⟨rfl, by first | rfl | rw [E2], by (first | rfl | (rw [hdd]; rfl)), Lib.hid (HB.out.alloc HB.out.size _)⟩))))
      case measure => simp [intOf]
    · go_wp2
      go_returns
      exact ⟨congrArg Ending.returned RR.out, HB.out⟩

theorem ryear_pos (y : Nat) (w : World) (h : y < 10000) :
    Calls Tryd.prog 72 #[.int .i64 y] w fun e w' => e = .returned (.string ⟨(yl y []).toArray⟩) ∧ Below w.heap.size w w' := by
  have D := Lib.hid (fun w => digits_4 y w (by omega))
  have h0 : ¬ (y : Int) < 0 := by omega
  have R := Lib.hid (show (.string ⟨#[dg (y / 1000 % 10), dg (y / 100 % 10), dg (y / 10 % 10), dg (y % 10)]⟩ : Value) = .string ⟨(yl y []).toArray⟩ by unfold yl; rw [show y / 1000 % 10 = y / 1000 by omega])
  clear h
  go_enter Tryd.func72, Tryd.ntmps72
  go_wp2_with (go_at_call 73; (with_reducible refine (D.out _).mono ?_); rintro e w' ⟨rfl, b1⟩)
  go_returns
  exact ⟨congrArg Ending.returned R.out, b1⟩
theorem ryear_neg (z : Int) (y : Nat) (hz : z = -(y : Int)) (w : World) (h : y < 10000) (h1 : 1 ≤ y) :
    Calls Tryd.prog 72 #[.int .i64 z] w fun e w' => e = .returned (.string ⟨(45 :: yl y []).toArray⟩) ∧ Below w.heap.size w w' := by
  have D := Lib.hid (fun w => digits_4 y w (by omega))
  have h0 : z < 0 := by omega
  have hn : -z = (y : Int) := by omega
  have z1 : -9999 ≤ z := by omega
  have R := Lib.hid (show (.string (⟨#[45]⟩ ++ ⟨#[dg (y / 1000 % 10), dg (y / 100 % 10), dg (y / 10 % 10), dg (y % 10)]⟩) : Value) = .string ⟨(45 :: yl y []).toArray⟩ by unfold yl; rw [show y / 1000 % 10 = y / 1000 by omega]; rfl)
  clear h h1 hz
  go_enter Tryd.func72, Tryd.ntmps72
  go_wp2_with (go_at_call 73; (with_reducible refine (D.out _).mono ?_); rintro e w' ⟨rfl, b1⟩)
  go_returns
  exact ⟨congrArg Ending.returned R.out, b1⟩
end Go.Proofs.YtllhcpkpbipjlaaDoor
