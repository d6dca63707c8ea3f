/- The document's own: a number's digits. -/
import Derived.Test.YtimjendkpjojoaaDoorX2
import Derived.Test.YtimjendkpjojoaaDoorX7
namespace Go.Proofs.YtimjendkpjojoaaDoor
set_option linter.unusedVariables false
set_option linter.unusedSimpArgs false
open Go.ChangeShapes Go.WideShapes Go.ChangeAt Go.RowKit
namespace Cal
def dg (n : Nat) : UInt8 := UInt8.ofNat (48 + n)
end Cal
open Cal (dg)
theorem dg_nat {k : Nat} (hk : k < 10) : (dg k).toNat = 48 + k := by unfold dg; simp; omega
theorem dgU (k : Nat) (hk : k < 10) : dg k = UInt8.ofNat (48 + k) := rfl
theorem conv_dg (k : Nat) (hk : k < 10) (W : World) (b : Nat) (h : W.cell? ⟨b, 0, none⟩ = some (.int .u8 (48 + (k : Int)))) :
    (convert 43 9 (.slice (some ⟨b, 0, none⟩) 1 1)).run Tryd.prog W = .ok (.string ⟨#[dg k]⟩) W :=
  run_convert_bytes_back (P := Tryd.prog) W 43 9 5 ⟨b, 0, none⟩ 1 [dg k] Tryd.underlying43 Tryd.underlying5 Tryd.underlying9 (fun j hj => by
    have : j = 0 := by simp at hj; exact hj
    subst this
    rw [show ([dg k][0]).toNat = 48 + k from dg_nat hk]
    rw [show (((48 + k : Nat) : Int)) = 48 + (k : Int) by omega]
    exact h)
theorem dec_len : ∀ (m k : Nat), k < 10 ^ m → 1 ≤ m → (Lib.decDigits k).length ≤ m
  | 0, k, h, hm => by omega
  | m + 1, k, h, hm => by
    rw [Lib.decDigits]
    split
    · simp
    · have hp : k / 10 < 10 ^ m := by rw [Nat.pow_succ] at h; omega
      have m1 : 1 ≤ m := by
        rcases Nat.eq_zero_or_pos m with e | e
        · subst e; simp at h; omega
        · exact e
      have := dec_len m (k / 10) hp m1
      rw [List.length_append]; simp; omega
theorem dec_small (k : Nat) (hk : k < 10) : Lib.decDigits k = [dg k] := by
  rw [Lib.decDigits, dif_pos hk, dgU k hk]
theorem dec_big (k : Nat) (hk : ¬ k < 10) : Lib.decDigits k = Lib.decDigits (k / 10) ++ [dg (k % 10)] := by
  rw [Lib.decDigits, dif_neg hk, dgU _ (by omega)]
set_option maxHeartbeats 1000000 in
theorem told_one (k : Nat) (hk : k < 10) (w : World) : Calls Tryd.prog 58 #[.int .i64 (k : Int)] w fun e w' => e = .returned (.string ⟨#[dg k]⟩) ∧ Below w.heap.size w w' := by
  have k0 : (0 : Int) ≤ (k : Int) := by omega
  have k9 : (k : Int) ≤ 9 := by omega
  have kc := conv_dg k hk
  clear hk
  go_enter Tryd.func58, Tryd.ntmps58
  go_wp2
  go_returns
  exact ⟨rfl, (Below.refl _ w).alloc (Nat.le_refl _) _⟩
set_option maxHeartbeats 2000000 in
theorem told_nat : ∀ (N k : Nat), k ≤ N → k ≤ 9223372036854775807 → ∀ (w : World), Calls Tryd.prog 58 #[.int .i64 (k : Int)] w fun e w' => e = .returned (.string ⟨(Lib.decDigits k).toArray⟩) ∧ Below w.heap.size w w'
  | N, k, hN, hm, w => by
    by_cases hk : k < 10
    · rw [dec_small k hk]
      exact told_one k hk w
    · obtain ⟨N', rfl⟩ : ∃ N', N = N' + 1 := ⟨N - 1, by omega⟩
      have H1 := Lib.hid (told_nat N' (k / 10) (by omega) (by omega))
      have H2 := Lib.hid (told_one (k % 10) (by omega))
      have HD : Hid ((⟨(Lib.decDigits k).toArray⟩ : ByteArray) = ⟨(Lib.decDigits (k / 10)).toArray⟩ ++ ⟨#[dg (k % 10)]⟩) := Lib.hid (by
        rw [dec_big k hk]; apply ByteArray.ext; simp [ByteArray.data_append])
      obtain ⟨A, hA⟩ : ∃ A : ByteArray, ⟨(Lib.decDigits (k / 10)).toArray⟩ = A := ⟨_, rfl⟩
      have hAs : A.size ≤ 20 := by rw [← hA]; have := dec_len 20 (k / 10) (by omega) (by omega); simpa [ByteArray.size] using this
      obtain ⟨B, hB⟩ : ∃ B : ByteArray, ⟨#[dg (k % 10)]⟩ = B := ⟨_, rfl⟩
      have hBs : B.size = 1 := by rw [← hB]; rfl
      obtain ⟨C, hC⟩ : ∃ C : ByteArray, ⟨(Lib.decDigits k).toArray⟩ = C := ⟨_, rfl⟩
      rw [hA] at H1 HD
      rw [hB] at H2 HD
      rw [hC] at HD ⊢
      have e1 : (k : Int) / 10 = ((k / 10 : Nat) : Int) := by omega
      have e2 : (k : Int) % 10 = ((k % 10 : Nat) : Int) := by omega
      have k0 : (0 : Int) ≤ (k : Int) := by omega
      have k9 : ¬ (k : Int) < 10 := by omega
      have km : (k : Int) ≤ 9223372036854775807 := by omega
      obtain ⟨q, hq⟩ : ∃ q : Nat, k / 10 = q := ⟨_, rfl⟩
      obtain ⟨m, hmm⟩ : ∃ m : Nat, k % 10 = m := ⟨_, rfl⟩
      rw [hq] at e1 H1
      rw [hmm] at e2 H2
      clear hA hB hC hk hq hmm hN hm
      go_enter Tryd.func58, Tryd.ntmps58
      go_wp2_with fail
      (with_reducible refine (H1.out _).mono ?_)
      rintro e w2 ⟨rfl, b2⟩
      have HB2 := Lib.hid b2
      clear b2
      go_wp2_with fail
      (with_reducible refine (H2.out _).mono ?_)
      rintro e w3 ⟨rfl, b3⟩
      have HB3 := Lib.hid (HB2.out.trans (b3.mono HB2.out.size))
      clear b3
      go_wp2
      go_returns
      exact ⟨by rw [HD.out]; rfl, HB3.out⟩
set_option maxHeartbeats 2000000 in
theorem told_neg : ∀ (N k : Nat), k ≤ N → 1 ≤ k → k ≤ 9223372036854775808 → ∀ (n : Int), n = -(k : Int) → ∀ (w : World), Calls Tryd.prog 58 #[.int .i64 n] w fun e w' => e = .returned (.string ⟨(45 :: Lib.decDigits k).toArray⟩) ∧ Below w.heap.size w w'
  | N, k, hN, h1, hm, n, hn, w => by
    by_cases hk : k < 10
    · have H2 := Lib.hid (told_one k hk)
      have HD : Hid ((⟨(45 :: Lib.decDigits k).toArray⟩ : ByteArray) = ⟨#[45]⟩ ++ ⟨#[dg k]⟩) := Lib.hid (by
        rw [dec_small k hk]; apply ByteArray.ext; simp [ByteArray.data_append])
      obtain ⟨C, hC⟩ : ∃ C : ByteArray, ⟨(45 :: Lib.decDigits k).toArray⟩ = C := ⟨_, rfl⟩
      obtain ⟨B, hB⟩ : ∃ B : ByteArray, ⟨#[dg k]⟩ = B := ⟨_, rfl⟩
      have hBs : B.size = 1 := by rw [← hB]; rfl
      rw [hC] at HD ⊢
      rw [hB] at H2 HD
      have e1 : n.tdiv 10 = 0 := by rw [hn, Int.neg_tdiv, Int.tdiv_eq_ediv_of_nonneg (by omega)]; omega
      have e2 : -n = (k : Int) := by omega
      have n0 : n < 0 := by omega
      have n9 : -9 ≤ n := by omega
      clear hC hB hk hn hm hN h1
      go_enter Tryd.func58, Tryd.ntmps58
      go_wp2_with fail
      (with_reducible refine (H2.out _).mono ?_)
      rintro e w2 ⟨rfl, b2⟩
      have HB2 := Lib.hid b2
      clear b2
      go_wp2
      go_returns
      exact ⟨by rw [HD.out]; rfl, HB2.out⟩
    · obtain ⟨N', rfl⟩ : ∃ N', N = N' + 1 := ⟨N - 1, by omega⟩
      obtain ⟨q, hq⟩ : ∃ q : Nat, k / 10 = q := ⟨_, rfl⟩
      obtain ⟨m, hmm⟩ : ∃ m : Nat, k % 10 = m := ⟨_, rfl⟩
      have e1 : n.tdiv 10 = -(q : Int) := by rw [hn, Int.neg_tdiv, Int.tdiv_eq_ediv_of_nonneg (by omega)]; omega
      have e2 : n.tmod 10 = -(m : Int) := by rw [hn, Int.neg_tmod, Int.tmod_eq_emod_of_nonneg (by omega)]; omega
      have H1 := Lib.hid (told_neg N' q (by omega) (by omega) (by omega) (n.tdiv 10) e1)
      have H2 := Lib.hid (told_one m (by omega))
      have HD : Hid ((⟨(45 :: Lib.decDigits k).toArray⟩ : ByteArray) = ⟨(45 :: Lib.decDigits q).toArray⟩ ++ ⟨#[dg m]⟩) := Lib.hid (by
        rw [dec_big k hk, hq, hmm]; apply ByteArray.ext; simp [ByteArray.data_append])
      obtain ⟨A, hA⟩ : ∃ A : ByteArray, ⟨(45 :: Lib.decDigits q).toArray⟩ = A := ⟨_, rfl⟩
      have hAs : A.size ≤ 21 := by rw [← hA]; have := dec_len 20 q (by omega) (by omega); simp [ByteArray.size]; omega
      obtain ⟨B, hB⟩ : ∃ B : ByteArray, ⟨#[dg m]⟩ = B := ⟨_, rfl⟩
      have hBs : B.size = 1 := by rw [← hB]; rfl
      obtain ⟨C, hC⟩ : ∃ C : ByteArray, ⟨(45 :: Lib.decDigits k).toArray⟩ = C := ⟨_, rfl⟩
      rw [hA] at H1 HD
      rw [hB] at H2 HD
      rw [hC] at HD ⊢
      rw [e1] at H1
      have e3 : -n.tmod 10 = (m : Int) := by omega
      have n0 : n < 0 := by omega
      have nlo : -9223372036854775808 ≤ n := by omega
      have q1 : 1 ≤ q := by omega
      have q2 : q ≤ 922337203685477580 := by omega
      have m9 : m ≤ 9 := by omega
      clear hA hB hC hk hq hmm hN hm hn h1
      go_enter Tryd.func58, Tryd.ntmps58
      go_wp2_with fail
      (with_reducible refine (H1.out _).mono ?_)
      rintro e w2 ⟨rfl, b2⟩
      have HB2 := Lib.hid b2
      clear b2
      go_wp2_with fail
      (with_reducible refine (H2.out _).mono ?_)
      rintro e w3 ⟨rfl, b3⟩
      have HB3 := Lib.hid (HB2.out.trans (b3.mono HB2.out.size))
      clear b3
      go_wp2
      go_returns
      exact ⟨by rw [HD.out]; rfl, HB3.out⟩
theorem told_any (n : Int) (h0 : -9223372036854775808 ≤ n) (h1 : n ≤ 9223372036854775807) (w : World) : Calls Tryd.prog 58 #[.int .i64 n] w fun e w' => e = .returned (.string ⟨(Lib.itoa n).toArray⟩) ∧ Below w.heap.size w w' := by
  unfold Lib.itoa
  split
  · exact told_neg n.natAbs n.natAbs (Nat.le_refl _) (by omega) (by omega) n (by omega) w
  · have := told_nat n.toNat n.toNat (Nat.le_refl _) (by omega) w
    rw [show ((n.toNat : Nat) : Int) = n by omega] at this
    exact this
theorem itoa_ne (n : Int) : Lib.itoa n ≠ [] := by
  unfold Lib.itoa
  split
  · simp
  · rw [Lib.decDigits]; split <;> simp
set_option maxHeartbeats 2000000 in
theorem rrt_one (n : Int) (w : World) : Calls Tryd.prog 57 #[.agg #[.int .u8 2, .string ⟨#[]⟩, .int .i64 n]] w fun e w' => e = .returned (.bool true) ∧ Below w.heap.size w w' := by
  obtain ⟨b, hb⟩ : ∃ z, w.heap.size = z := ⟨_, rfl⟩
  obtain ⟨w1, hw1⟩ : ∃ z, w.alloc (.cells #[.int .u8 2, .string ⟨#[]⟩, .int .i64 n] 71) = z := ⟨_, rfl⟩
  have KA : Below w.heap.size w w1 := by rw [← hw1]; exact (Below.refl _ w).alloc (Nat.le_refl _) _
  have XB : w1.heap[b]? = some (.cells #[.int .u8 2, .string ⟨#[]⟩, .int .i64 n] 71 (0, 0)) := by rw [← hw1, ← hb, al_new]
  have e0 := cell_blk XB 0
  have e1 := cell_blk XB 1
  have e2 := cell_blk XB 2
  have HKA := Lib.hid KA
  clear KA XB
  go_enter Tryd.func57, Tryd.ntmps57
  go_wp2
  go_returns
  exact ⟨rfl, by first | exact HKA.out | (rw [← hb]; exact HKA.out)⟩
set_option maxRecDepth 8000 in
set_option maxHeartbeats 4000000 in
theorem rtext_one (n : Int) (h0 : -9223372036854775808 ≤ n) (h1 : n ≤ 9223372036854775807) (w : World) (b : Nat) (hb : w.heap[b]? = some (.cells #[.int .u8 2, .string ⟨#[]⟩, .int .i64 n] 71 (0, 0))) :
    Calls Tryd.prog 42 #[.slice (some ⟨b, 0, none⟩) 1 1] w fun e w' => e = .returned (.string ⟨(Lib.itoa n).toArray⟩) ∧ Below w.heap.size w w' := by
  have HBK := Lib.hid hb
  have HTO := Lib.hid (told_any n h0 h1)
  have HRT := Lib.hid (rrt_one n)
  have hil := itoa_len ⟨h0, h1⟩
  obtain ⟨X, hX⟩ : ∃ X : ByteArray, ⟨(Lib.itoa n).toArray⟩ = X := ⟨_, rfl⟩
  have hne : ¬ X.toList = [] := by rw [← hX, ByteArray.toList_eq]; exact itoa_ne n
  rw [hX] at HTO hil ⊢
  clear hX hb
  go_enter Tryd.func42, Tryd.ntmps42
  go_upto_region 3 with fail
  go_loopw [3, 4] (fun ss ii wr => ∃ j : Nat, j ≤ 1 ∧ (∃ S : ByteArray, ss = .string S ∧ Hid (S = if j = 0 then ⟨#[]⟩ else X)) ∧ ii = .int .i64 j ∧ Hid (Below w.heap.size w wr)) (fun ss ii _ => 1 - (intOf ii).toNat)
  case atStart => exact ⟨0, by omega, ⟨_, rfl, Lib.hid rfl⟩, rfl, Lib.hid (Below.refl _ _)⟩
  case round =>
    obtain ⟨j, hj, ⟨S, rfl, HS⟩, rfl, HB⟩ := hrel
    by_cases j0 : j = 0
    · subst j0
      have hk := blk_below HBK.out HB.out
      have e0 := cell_blk hk 0
      have e1 := cell_blk hk 1
      have e2 := cell_blk hk 2
      have hSe : S = ⟨#[]⟩ := by rw [HS.out]; rfl
      subst hSe
      clear hk HS
      go_wp2_with fail
      (with_reducible refine (HRT.out _).mono ?_)
      rintro e w2 ⟨rfl, k⟩
      have HB3 := Lib.hid (HB.out.trans (k.mono HB.out.size))
      clear k HRT HB e0 e1 e2
      have hk := blk_below HBK.out HB3.out
      have e0 := cell_blk hk 0
      have e1 := cell_blk hk 1
      have e2 := cell_blk hk 2
      clear hk
      go_wp2_with fail
      (with_reducible refine (HTO.out _).mono ?_)
      rintro e w4 ⟨rfl, k⟩
      have HB4 := Lib.hid (HB3.out.trans (k.mono HB3.out.size))
      clear k
      go_wp2
      go_roundw
      case rel => exact ⟨1, by omega, ⟨_, rfl, Lib.hid (by apply ByteArray.ext; simp)⟩, by go_num, HB4⟩
      case measure => simp [intOf]
    · obtain rfl : j = 1 := by omega
      have hSe : S = X := by rw [HS.out]; rfl
      subst hSe
      clear HS
      go_wp2
      go_returns
      exact ⟨rfl, HB.out⟩
set_option maxHeartbeats 2000000 in
theorem rnum_any (n : Int) (h0 : -9223372036854775808 ≤ n) (h1 : n ≤ 9223372036854775807) (w : World) :
    Calls Tryd.prog 26 #[.int .i64 n] w fun e w' => e = .returned (.string ⟨(Lib.itoa n).toArray⟩) ∧ Below w.heap.size w w' := by
  obtain ⟨b, hb⟩ : ∃ z, w.heap.size = z := ⟨_, rfl⟩
  obtain ⟨w1, hw1⟩ : ∃ z, w.alloc (.cells #[.int .u8 2, .string ⟨#[]⟩, .int .i64 n] 71) = z := ⟨_, rfl⟩
  have KA : Below w.heap.size w w1 := by rw [← hw1]; exact (Below.refl _ w).alloc (Nat.le_refl _) _
  have XB : w1.heap[b]? = some (.cells #[.int .u8 2, .string ⟨#[]⟩, .int .i64 n] 71 (0, 0)) := by rw [← hw1, ← hb, al_new]
  have HT := Lib.hid (rtext_one n h0 h1 w1 b XB)
  have HKA := Lib.hid KA
  clear KA XB
  go_enter Tryd.func26, Tryd.ntmps26
  go_wp2_with fail
  (with_reducible refine HT.out.mono ?_)
  rintro e w2 ⟨rfl, k⟩
  go_wp2
  go_returns
  exact ⟨rfl, HKA.out.trans (k.mono HKA.out.size)⟩
end Go.Proofs.YtimjendkpjojoaaDoor
