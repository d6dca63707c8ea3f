/- Z7, Z8, Z9 in one. -/
import Derived.Test.YthkddellilhhaaaGreatDoorZb
namespace Go.Proofs.YthkddellilhhaaaGreatDoor
set_option linter.unusedVariables false
set_option linter.unusedSimpArgs false
open Go.ChangeShapes Go.WideShapes Go.ChangeAt Go.RowKit
open Cal (dg)
theorem dgU (k : Nat) (hk : k < 10) : dg k = UInt8.ofNat (48 + k) := by
  apply UInt8.toNat_inj.1
  rw [dg_toNat k hk]; simp; omega
theorem conv_one (k : Nat) (hk : k < 10) (W : World) (b : Nat) (h : W.cell? ⟨b, 0, none⟩ = some (.int .u8 (48 + (k : Int)))) :
    (convert 63 9 (.slice (some ⟨b, 0, none⟩) 1 1)).run Tryz.prog W = .ok (.string ⟨#[dg k]⟩) W := conv_dg k hk W b h
theorem dec_small (k : Nat) (hk : k < 10) : Lib.decDigits k = [dg k] := by
  rw [Lib.decDigits, dif_pos hk, dgU k hk]
theorem dec_big (k : Nat) (hk : ¬ k < 10) : Lib.decDigits k = Lib.decDigits (k / 10) ++ [dg (k % 10)] := by
  rw [Lib.decDigits, dif_neg hk, dgU _ (by omega)]
set_option maxHeartbeats 1000000 in
theorem told_one (k : Nat) (hk : k < 10) (w : World) : Calls Tryz.prog 25 #[.int .i64 (k : Int)] w fun e w' => e = .returned (.string ⟨#[dg k]⟩) ∧ Below w.heap.size w w' := by
  have k0 : (0 : Int) ≤ (k : Int) := by omega
  have k9 : (k : Int) ≤ 9 := by omega
  have kc := conv_dg k hk
  clear hk
  go_enter Tryz.func25, Tryz.ntmps25
  go_wp2
  go_returns
  exact ⟨rfl, (Below.refl _ w).alloc (Nat.le_refl _) _⟩
set_option maxHeartbeats 2000000 in
theorem told_nat : ∀ (N k : Nat), k ≤ N → k ≤ 9223372036854775807 → ∀ (w : World), Calls Tryz.prog 25 #[.int .i64 (k : Int)] w fun e w' => e = .returned (.string ⟨(Lib.decDigits k).toArray⟩) ∧ Below w.heap.size w w'
  | N, k, hN, hm, w => by
    by_cases hk : k < 10
    · rw [dec_small k hk]
      exact told_one k hk w
    · obtain ⟨N', rfl⟩ : ∃ N', N = N' + 1 := ⟨N - 1, by omega⟩
      have H1 := Lib.hid (told_nat N' (k / 10) (by omega) (by omega))
      have H2 := Lib.hid (told_one (k % 10) (by omega))
      have HD : Hid ((⟨(Lib.decDigits k).toArray⟩ : ByteArray) = ⟨(Lib.decDigits (k / 10)).toArray⟩ ++ ⟨#[dg (k % 10)]⟩) := Lib.hid (by
        rw [dec_big k hk]; apply ByteArray.ext; simp [ByteArray.data_append])
      obtain ⟨A, hA⟩ : ∃ A : ByteArray, ⟨(Lib.decDigits (k / 10)).toArray⟩ = A := ⟨_, rfl⟩
      have hAs : A.size ≤ 20 := by rw [← hA]; have := dec_len 20 (k / 10) (by omega) (by omega); simpa [ByteArray.size] using this
      obtain ⟨B, hB⟩ : ∃ B : ByteArray, ⟨#[dg (k % 10)]⟩ = B := ⟨_, rfl⟩
      have hBs : B.size = 1 := by rw [← hB]; rfl
      obtain ⟨C, hC⟩ : ∃ C : ByteArray, ⟨(Lib.decDigits k).toArray⟩ = C := ⟨_, rfl⟩
      rw [hA] at H1 HD
      rw [hB] at H2 HD
      rw [hC] at HD ⊢
      have e1 : (k : Int) / 10 = ((k / 10 : Nat) : Int) := by omega
      have e2 : (k : Int) % 10 = ((k % 10 : Nat) : Int) := by omega
      have k0 : (0 : Int) ≤ (k : Int) := by omega
      have k9 : ¬ (k : Int) < 10 := by omega
      have km : (k : Int) ≤ 9223372036854775807 := by omega
      obtain ⟨q, hq⟩ : ∃ q : Nat, k / 10 = q := ⟨_, rfl⟩
      obtain ⟨m, hmm⟩ : ∃ m : Nat, k % 10 = m := ⟨_, rfl⟩
      rw [hq] at e1 H1
      rw [hmm] at e2 H2
      clear hA hB hC hk hq hmm hN hm
      go_enter Tryz.func25, Tryz.ntmps25
      go_wp2_with fail
      (with_reducible refine (H1.out _).mono ?_)
      rintro e w2 ⟨rfl, b2⟩
      have HB2 := Lib.hid b2
      clear b2
      go_wp2_with fail
      (with_reducible refine (H2.out _).mono ?_)
      rintro e w3 ⟨rfl, b3⟩
      have HB3 := Lib.hid (HB2.out.trans (b3.mono HB2.out.size))
      clear b3
      go_wp2
      go_returns
      exact ⟨by rw [HD.out]; rfl, HB3.out⟩
set_option maxHeartbeats 2000000 in
theorem told_neg : ∀ (N k : Nat), k ≤ N → 1 ≤ k → k ≤ 9223372036854775808 → ∀ (n : Int), n = -(k : Int) → ∀ (w : World), Calls Tryz.prog 25 #[.int .i64 n] w fun e w' => e = .returned (.string ⟨(45 :: Lib.decDigits k).toArray⟩) ∧ Below w.heap.size w w'
  | N, k, hN, h1, hm, n, hn, w => by
    by_cases hk : k < 10
    · have H2 := Lib.hid (told_one k hk)
      have HD : Hid ((⟨(45 :: Lib.decDigits k).toArray⟩ : ByteArray) = ⟨#[45]⟩ ++ ⟨#[dg k]⟩) := Lib.hid (by
        rw [dec_small k hk]; apply ByteArray.ext; simp [ByteArray.data_append])
      obtain ⟨C, hC⟩ : ∃ C : ByteArray, ⟨(45 :: Lib.decDigits k).toArray⟩ = C := ⟨_, rfl⟩
      obtain ⟨B, hB⟩ : ∃ B : ByteArray, ⟨#[dg k]⟩ = B := ⟨_, rfl⟩
      have hBs : B.size = 1 := by rw [← hB]; rfl
      rw [hC] at HD ⊢
      rw [hB] at H2 HD
      have e1 : n.tdiv 10 = 0 := by rw [hn, Int.neg_tdiv, Int.tdiv_eq_ediv_of_nonneg (by omega)]; omega
      have e2 : -n = (k : Int) := by omega
      have n0 : n < 0 := by omega
      have n9 : -9 ≤ n := by omega
      clear hC hB hk hn hm hN h1
      go_enter Tryz.func25, Tryz.ntmps25
      go_wp2_with fail
      (with_reducible refine (H2.out _).mono ?_)
      rintro e w2 ⟨rfl, b2⟩
      have HB2 := Lib.hid b2
      clear b2
      go_wp2
      go_returns
      exact ⟨by rw [HD.out]; rfl, HB2.out⟩
    · obtain ⟨N', rfl⟩ : ∃ N', N = N' + 1 := ⟨N - 1, by omega⟩
      obtain ⟨q, hq⟩ : ∃ q : Nat, k / 10 = q := ⟨_, rfl⟩
      obtain ⟨m, hmm⟩ : ∃ m : Nat, k % 10 = m := ⟨_, rfl⟩
      have e1 : n.tdiv 10 = -(q : Int) := by rw [hn, Int.neg_tdiv, Int.tdiv_eq_ediv_of_nonneg (by omega)]; omega
      have e2 : n.tmod 10 = -(m : Int) := by rw [hn, Int.neg_tmod, Int.tmod_eq_emod_of_nonneg (by omega)]; omega
      have H1 := Lib.hid (told_neg N' q (by omega) (by omega) (by omega) (n.tdiv 10) e1)
      have H2 := Lib.hid (told_one m (by omega))
      have HD : Hid ((⟨(45 :: Lib.decDigits k).toArray⟩ : ByteArray) = ⟨(45 :: Lib.decDigits q).toArray⟩ ++ ⟨#[dg m]⟩) := Lib.hid (by
        rw [dec_big k hk, hq, hmm]; apply ByteArray.ext; simp [ByteArray.data_append])
      obtain ⟨A, hA⟩ : ∃ A : ByteArray, ⟨(45 :: Lib.decDigits q).toArray⟩ = A := ⟨_, rfl⟩
      have hAs : A.size ≤ 21 := by rw [← hA]; have := dec_len 20 q (by omega) (by omega); simp [ByteArray.size]; omega
      obtain ⟨B, hB⟩ : ∃ B : ByteArray, ⟨#[dg m]⟩ = B := ⟨_, rfl⟩
      have hBs : B.size = 1 := by rw [← hB]; rfl
      obtain ⟨C, hC⟩ : ∃ C : ByteArray, ⟨(45 :: Lib.decDigits k).toArray⟩ = C := ⟨_, rfl⟩
      rw [hA] at H1 HD
      rw [hB] at H2 HD
      rw [hC] at HD ⊢
      rw [e1] at H1
      have e3 : -n.tmod 10 = (m : Int) := by omega
      have n0 : n < 0 := by omega
      have nlo : -9223372036854775808 ≤ n := by omega
      have q1 : 1 ≤ q := by omega
      have q2 : q ≤ 922337203685477580 := by omega
      have m9 : m ≤ 9 := by omega
      clear hA hB hC hk hq hmm hN hm hn h1
      go_enter Tryz.func25, Tryz.ntmps25
      go_wp2_with fail
      (with_reducible refine (H1.out _).mono ?_)
      rintro e w2 ⟨rfl, b2⟩
      have HB2 := Lib.hid b2
      clear b2
      go_wp2_with fail
      (with_reducible refine (H2.out _).mono ?_)
      rintro e w3 ⟨rfl, b3⟩
      have HB3 := Lib.hid (HB2.out.trans (b3.mono HB2.out.size))
      clear b3
      go_wp2
      go_returns
      exact ⟨by rw [HD.out]; rfl, HB3.out⟩
theorem told_any (n : Int) (h0 : -9223372036854775808 ≤ n) (h1 : n ≤ 9223372036854775807) (w : World) : Calls Tryz.prog 25 #[.int .i64 n] w fun e w' => e = .returned (.string ⟨(Lib.itoa n).toArray⟩) ∧ Below w.heap.size w w' := by
  unfold Lib.itoa
  split
  · exact told_neg n.natAbs n.natAbs (Nat.le_refl _) (by omega) (by omega) n (by omega) w
  · have := told_nat n.toNat n.toNat (Nat.le_refl _) (by omega) w
    rw [show ((n.toNat : Nat) : Int) = n by omega] at this
    exact this
set_option maxHeartbeats 2000000 in
theorem rright_any (a1 : Int) (a2 : List UInt8) (a3 : Int) (w : World) (h0 : 0 ≤ a1) (h1 : a1 ≤ 255) (hs : a2.length ≤ maxLen) :
    Calls Tryz.prog 8 #[.agg #[.int .u8 a1, .string ⟨a2.toArray⟩, .int .i64 a3]] w fun e w' => e = .returned (.bool (rightT (a1, a2, a3))) ∧ Below w.heap.size w w' := by
  obtain ⟨r, hr⟩ : ∃ r, rightT (a1, a2, a3) = r := ⟨_, rfl⟩
  have hri : r = true ↔ ((a1 = 1 ∧ a3 = 0 ∧ Lx.nameOk a2 = true) ∨ (a1 = 2 ∧ a2 = []) ∨ (a1 = 3 ∧ a2 = [] ∧ dok a3 = true) ∨ (a1 = 4 ∧ a3 = 0 ∧ a2.length = 1 ∧ a2.all Lx.mrk = true)) := by rw [← hr]; unfold rightT; rw [decide_eq_true_iff]
  rw [hr]
  clear hr
  have HN := Lib.hid (fun W => rname_any ⟨a2.toArray⟩ W (by simpa [ByteArray.size] using hs))
  rw [show (⟨a2.toArray⟩ : ByteArray).data.toList = a2 from rfl] at HN
  have HRI := Lib.hid hri
  clear hri
  obtain ⟨b, hb⟩ : ∃ z, w.heap.size = z := ⟨_, rfl⟩
  obtain ⟨w1, hw1⟩ : ∃ z, w.alloc (.cells #[.int .u8 a1, .string ⟨a2.toArray⟩, .int .i64 a3] 27) = z := ⟨_, rfl⟩
  have KA : Below w.heap.size w w1 := by rw [← hw1]; exact (Below.refl _ w).alloc (Nat.le_refl _) _
  have XB : w1.heap[b]? = some (.cells #[.int .u8 a1, .string ⟨a2.toArray⟩, .int .i64 a3] 27 (0, 0)) := by rw [← hw1, ← hb, al_new]
  have HKA := Lib.hid KA
  have e0 := cell_blk XB 0
  have e1 := cell_blk XB 1
  have e2 := cell_blk XB 2
  have HXB := Lib.hid XB
  have hsz : ((⟨a2.toArray⟩ : ByteArray).size : Int) = (a2.length : Int) := by simp [ByteArray.size]
  have HSZ := Lib.hid hsz
  clear KA XB hs hsz
  by_cases k1 : a1 = 1
  · subst k1
    obtain ⟨q, hq⟩ : ∃ q, Lx.nameOk a2 = q := ⟨_, rfl⟩
    rw [hq] at HN
    by_cases z : a3 = 0
    · subst z
      obtain rfl : r = q := by
        rw [Bool.eq_iff_iff, HRI.out, hq]; simp
      clear hq
      go_enter Tryz.func8, Tryz.ntmps8
      go_wp2_with (first | ((with_reducible refine (HN.out _).mono ?_); rintro e w2 ⟨rfl, rfl⟩))
      go_returns
      exact ⟨rfl, by first | exact HKA.out | (rw [← hb]; exact HKA.out)⟩
    · have z2 : (a3 == 0) = false := by simp [z]
      obtain rfl : r = false := by
        cases r
        · rfl
        · have := HRI.out.1 rfl
          simp at this
          exact absurd this.1 z
      clear hq
      go_enter Tryz.func8, Tryz.ntmps8
      go_wp2
      go_returns
      exact ⟨rfl, by first | exact HKA.out | (rw [← hb]; exact HKA.out)⟩
  · have k1' : (a1 == 1) = false := by simp [k1]
    by_cases k2 : a1 = 2
    · subst k2
      cases a2 with
      | nil =>
        obtain rfl : r = true := HRI.out.2 (.inr (.inl ⟨rfl, rfl⟩))
        go_enter Tryz.func8, Tryz.ntmps8
        go_wp2
        go_returns
        exact ⟨rfl, by first | exact HKA.out | (rw [← hb]; exact HKA.out)⟩
      | cons c t =>
        obtain rfl : r = false := by
          cases r
          · rfl
          · have := HRI.out.1 rfl
            simp at this
        have ne : ¬ (⟨(c :: t).toArray⟩ : ByteArray).toList = [] := by rw [ByteArray.toList_eq]; simp
        go_enter Tryz.func8, Tryz.ntmps8
        go_wp2
        go_returns
        exact ⟨rfl, by first | exact HKA.out | (rw [← hb]; exact HKA.out)⟩
    · have k2' : (a1 == 2) = false := by simp [k2]
      by_cases k3 : a1 = 3
      · subst k3
        obtain ⟨q, hq⟩ : ∃ q, dok a3 = q := ⟨_, rfl⟩
        have HD : Hid (∀ W, Calls Tryz.prog 21 #[.int .i64 a3] W fun e w' => ∃ (ao : Option Addr) (m cap : Nat), e = .returned (.slice ao m cap) ∧ decide ((0 : Int) < (m : Int)) = q ∧ (m : Int) ≤ (cap : Int) ∧ Below W.heap.size W w') := Lib.hid (fun W => by
          cases q
          · have hno : ¬ (-4371587 ≤ a3 ∧ a3 < 2932897) := of_decide_eq_false hq
            exact (texts_zero a3 hno W).mono fun e w' ⟨he, hw⟩ => ⟨none, 0, 0, he, rfl, by omega, hw ▸ Below.refl _ _⟩
          · have hyes := of_decide_eq_true hq
            rcases texts_any a3 with ⟨_, hno⟩ | ⟨L, hL, hL0, _⟩
            · exact absurd (dtx_spec a3 hq).2.1 (hno _)
            · exact (hL.out W).mono fun e w' ⟨g, cap, he, h1, _, _, hb⟩ => ⟨_, L.length, cap, he, decide_eq_true (by omega), by omega, hb⟩)
        have HQ := Lib.hid hq
        clear hq
        cases a2 with
        | nil =>
          obtain rfl : r = q := by
            rw [Bool.eq_iff_iff, HRI.out, HQ.out]; simp
          go_enter Tryz.func8, Tryz.ntmps8
          go_wp2_with fail
          (with_reducible refine (HD.out _).mono ?_)
          rintro e w2 ⟨ao, m, cap, rfl, HER, HLE, k⟩
          have HF := Lib.hid (HKA.out.trans (k.mono HKA.out.size))
          clear e0 e1 e2 k
          obtain ⟨z, hz⟩ : ∃ z : Int, (m : Int) = z := ⟨_, rfl⟩
          rw [hz] at HER HLE
          go_wp2
          go_returns
          exact ⟨rfl, HF.out⟩
        | cons c t =>
          obtain rfl : r = false := by
            cases r
            · rfl
            · have := HRI.out.1 rfl
              simp at this
          have ne : ¬ (⟨(c :: t).toArray⟩ : ByteArray).toList = [] := by rw [ByteArray.toList_eq]; simp
          go_enter Tryz.func8, Tryz.ntmps8
          go_wp2
          go_returns
          exact ⟨rfl, by first | exact HKA.out | (rw [← hb]; exact HKA.out)⟩
      · have k3' : (a1 == 3) = false := by simp [k3]
        by_cases k4 : a1 = 4
        · subst k4
          by_cases z : a3 = 0
          · subst z
            by_cases y : a2.length = 1
            · obtain ⟨c, rfl⟩ : ∃ c, a2 = [c] := by
                match a2, y with
                | [c], _ => exact ⟨c, rfl⟩
              have HC := Lib.hid (fun W => rmark c W)
              obtain ⟨x, hx⟩ : ∃ x : Int, (c.toNat : Int) = x := ⟨_, rfl⟩
              have hgc : (((⟨[c].toArray⟩ : ByteArray)[0]'(Nat.one_pos)).toNat : Int) = x := hx
              have y2 : (((⟨[c].toArray⟩ : ByteArray).size : Int) == 1) = true := rfl
              have y3 : ((⟨[c].toArray⟩ : ByteArray).size : Int) = 1 := rfl
              rw [hx] at HC
              obtain rfl : r = Lx.mrk c := by
                rw [Bool.eq_iff_iff, HRI.out]; simp
              clear hx
              go_enter Tryz.func8, Tryz.ntmps8
              go_wp2_with (first | ((with_reducible refine (HC.out _).mono ?_); rintro e w2 ⟨rfl, rfl⟩))
              go_returns
              exact ⟨rfl, by first | exact HKA.out | (rw [← hb]; exact HKA.out)⟩
            · have y2 : (((⟨a2.toArray⟩ : ByteArray).size : Int) == 1) = false := by rw [HSZ.out]; simp; omega
              obtain rfl : r = false := by
                cases r
                · rfl
                · have := HRI.out.1 rfl
                  simp at this
                  exact absurd this.1 y
              go_enter Tryz.func8, Tryz.ntmps8
              go_wp2
              go_returns
              exact ⟨rfl, by first | exact HKA.out | (rw [← hb]; exact HKA.out)⟩
          · have z2 : (a3 == 0) = false := by simp [z]
            obtain rfl : r = false := by
              cases r
              · rfl
              · have := HRI.out.1 rfl
                simp at this
                exact absurd this.1 z
            go_enter Tryz.func8, Tryz.ntmps8
            go_wp2
            go_returns
            exact ⟨rfl, by first | exact HKA.out | (rw [← hb]; exact HKA.out)⟩
        · have k4' : (a1 == 4) = false := by simp [k4]
          obtain rfl : r = false := by
            cases r
            · rfl
            · have := HRI.out.1 rfl
              simp [k1, k2, k3, k4] at this
          go_enter Tryz.func8, Tryz.ntmps8
          go_wp2
          go_returns
          exact ⟨rfl, by first | exact HKA.out | (rw [← hb]; exact HKA.out)⟩

theorem joinL_snoc (x : List UInt8) : ∀ (xs : List (List UInt8)), Lx.joinL (xs ++ [x]) = if xs = [] then x else Lx.joinL xs ++ (32 :: x)
  | [] => rfl
  | [a] => by rw [if_neg (by simp)]; rfl
  | a :: b :: r => by
    have ih := joinL_snoc x (b :: r)
    rw [if_neg (by simp)] at ih ⊢
    have e : ∀ (y : List UInt8) (ys : List (List UInt8)), Lx.joinL (a :: y :: ys) = a ++ 32 :: Lx.joinL (y :: ys) := fun y ys => rfl
    rw [List.cons_append, List.cons_append, e, e, ← List.cons_append, ih]
    simp
theorem joinL_nil : ∀ (xs : List (List UInt8)), (∀ x ∈ xs, x ≠ []) → (Lx.joinL xs = [] ↔ xs = [])
  | [], _ => by simp [Lx.joinL]
  | [a], h => by simp [Lx.joinL]; exact h a (by simp)
  | a :: b :: r, h => by
    have e : Lx.joinL (a :: b :: r) = a ++ 32 :: Lx.joinL (b :: r) := rfl
    rw [e]; simp
theorem join_snoc (x : List UInt8) (xs : List (List UInt8)) : Lib.join (xs ++ [x]) [32] = if xs = [] then x else Lib.join xs [32] ++ (32 :: x) := by
  rw [← joinL_eq, ← joinL_eq, joinL_snoc]
theorem join_nil' (xs : List (List UInt8)) (h : ∀ x ∈ xs, x ≠ []) : Lib.join xs [32] = [] ↔ xs = [] := by
  rw [← joinL_eq]; exact joinL_nil xs h
theorem dec_ne (u : Nat) : Lib.decDigits u ≠ [] := by
  obtain ⟨c, r, e, _⟩ := dec_head u u (Nat.le_refl _)
  rw [e]; simp
theorem text_ne (t : Lx.Tk) (h : rightT t = true) : textT t ≠ [] := by
  obtain ⟨a1, a2, a3⟩ := t
  rcases of_decide_eq_true h with ⟨rfl, _, hn⟩ | ⟨rfl, _⟩ | ⟨rfl, _⟩ | ⟨rfl, _, hl, _⟩
  · have := (of_decide_eq_true hn).1
    intro z
    have z : a2 = [] := z
    rw [z] at this; simp at this
  · show Lib.itoa a3 ≠ []
    unfold Lib.itoa
    split
    · simp
    · exact dec_ne _
  · show 64 :: dtx a3 ≠ []
    simp
  · intro z
    have z : a2 = [] := z
    rw [z] at hl; simp at hl
theorem texts_ne (l : List Lx.Tk) : ∀ x ∈ texts l, x ≠ [] := by
  intro x hx
  unfold texts at hx
  obtain ⟨t, ht, rfl⟩ := List.mem_map.1 hx
  exact text_ne t (List.mem_filter.1 ht).2
theorem joinT_app_no (l : List Lx.Tk) (t : Lx.Tk) (h : rightT t = false) : joinT (l ++ [t]) = joinT l := by
  unfold joinT; rw [texts_app]; simp [texts, h]
theorem joinT_app_yes (l : List Lx.Tk) (t : Lx.Tk) (h : rightT t = true) : joinT (l ++ [t]) = if joinT l = [] then textT t else joinT l ++ (32 :: textT t) := by
  have e : texts (l ++ [t]) = texts l ++ [textT t] := by rw [texts_app]; simp [texts, h]
  have hj := join_nil' (texts l) (texts_ne l)
  unfold joinT
  rw [e, join_snoc]
  by_cases z : texts l = []
  · rw [if_pos z, if_pos (hj.2 z)]
  · rw [if_neg z, if_neg (fun y => z (hj.1 y))]
theorem first_text (n : Int) (h : dok n = true) (w : World) : Calls Tryz.prog 21 #[.int .i64 n] w fun e w' => ∃ (g m cap : Nat), e = .returned (.slice (some ⟨g, 0, none⟩) m cap) ∧ (1 : Int) ≤ (m : Int) ∧ (m : Int) ≤ (cap : Int) ∧ w'.cell? ⟨g, 0, none⟩ = some (.string ⟨(dtx n).toArray⟩) ∧ Below w.heap.size w w' := by
  obtain ⟨y, m, d, v, hm, hd, e1, e2⟩ := dtx_txt n h
  obtain ⟨r, hr⟩ := texts_some y m d v hm hd
  rw [← e1, ← e2] at hr
  exact ((texts_cells hr (by simp)).out w).mono fun e w' ⟨g, cap, he, h1, _, hc, hb⟩ => ⟨g, _, cap, he, by simp; omega, by omega, hc.out 0 (by simp), hb⟩
set_option maxRecDepth 8000 in
set_option maxHeartbeats 8000000 in
theorem rText_any (ao : Option Addr) (n c : Nat) (l : List Lx.Tk) (w : World) (hl : TkAt w ao n c l) (hb : TkB l) (hn : n ≤ 1000) :
    Calls Tryz.prog 11 #[.slice ao n c] w fun e w' => e = .returned (.string ⟨(joinT l).toArray⟩) ∧ Below w.heap.size w w' := by
  have HL := Lib.hid hl
  have HBD := Lib.hid hb
  have n0 : (0 : Int) ≤ (n : Int) := by omega
  have n9 : (n : Int) ≤ 9223372036854775807 := by omega
  clear hl hb
  go_enter Tryz.func11, Tryz.ntmps11
  go_upto_region 3 with fail
  go_loopw [3, 4] (fun ss ii wr => ∃ j : Nat, j ≤ n ∧ ss = .string ⟨(joinT (l.take j)).toArray⟩ ∧ ii = .int .i64 j ∧ Hid (Below w.heap.size w wr)) (fun ss ii _ => n - (intOf ii).toNat)
  case atStart => exact ⟨0, Nat.zero_le _, rfl, rfl, Lib.hid (Below.refl _ _)⟩
  case round =>
    obtain ⟨j, hj, rfl, rfl, HB⟩ := hrel
    have i0 : (0 : Int) ≤ (j : Int) := by omega
    by_cases jlt : j < n
    · have i1 : (j : Int) < n := by omega
      obtain ⟨xb, xp, rfl, hx⟩ := HL.out.here (by omega)
      have hjl : j < l.length := by rw [HL.out.len]; exact jlt
      have cx := hx j hjl
      have hbj := HBD.out _ (List.getElem_mem hjl)
      have HTK := Lib.hid (List.take_succ_eq_append_getElem hjl)
      obtain ⟨T, hT⟩ : ∃ T, l[j]'hjl = T := ⟨_, rfl⟩
      rw [hT] at cx hbj HTK
      obtain ⟨t1, t2, t3⟩ := T
      have c0 := cell_keep cx.1 HB.out
      have c1 := cell_keep cx.2.1 HB.out
      have c2 := cell_keep cx.2.2 HB.out
      have HCX := Lib.hid cx
      obtain ⟨⟨b1, b2⟩, b3, b4, b5⟩ := hbj
      dsimp only at c0 c1 c2 b1 b2 b3 b4 b5
      obtain ⟨r, hr⟩ : ∃ r, rightT (t1, t2, t3) = r := ⟨_, rfl⟩
      have HRT := Lib.hid (fun W => rright_any t1 t2 t3 W b1 b2 b3)
      rw [hr] at HRT
      have HRR := Lib.hid hr
      have HSL : Hid ((joinT (l.take j)).length ≤ 31000) := Lib.hid (by
        have h1 := join_len (texts (l.take j)) (texts_small (l.take j) (fun t ht => HBD.out t (List.mem_of_mem_take ht)))
        have h2 := texts_len (l.take j)
        rw [List.length_take] at h2
        unfold joinT
        omega)
      obtain ⟨J, hJ⟩ : ∃ J, joinT (l.take j) = J := ⟨_, rfl⟩
      obtain ⟨S, hS⟩ : ∃ S : ByteArray, ⟨J.toArray⟩ = S := ⟨_, rfl⟩
      rw [hJ] at HSL ⊢
      rw [hS]
      have hSs : S.size ≤ 31000 := by rw [← hS]; simpa [ByteArray.size] using HSL.out
      have HSJ := Lib.hid hS
      have HJJ := Lib.hid hJ
      clear hx hT cx hr hS hJ
      go_wp2_with fail
      (with_reducible refine (HRT.out _).mono ?_)
      rintro e w2 ⟨rfl, k⟩
      have HB3 := Lib.hid (HB.out.trans (k.mono HB.out.size))
      have c0 := cell_keep HCX.out.1 HB3.out
      have c1 := cell_keep HCX.out.2.1 HB3.out
      have c2 := cell_keep HCX.out.2.2 HB3.out
      clear k HRT HB
      cases r
      · have HJ : Hid ((⟨(joinT (l.take (j + 1))).toArray⟩ : ByteArray) = S) := Lib.hid (by rw [HTK.out, joinT_app_no _ _ HRR.out, HJJ.out]; exact HSJ.out)
        go_wp2
        go_roundw
        case rel => exact ⟨j + 1, by omega, by rw [HJ.out], by go_num, HB3⟩
        case measure => simp [intOf]; omega
      · have hk : (t1 = 1 ∧ True) ∨ (t1 = 2 ∧ True) ∨ (t1 = 3 ∧ dok t3 = true) ∨ (t1 = 4 ∧ True) := by
          rcases of_decide_eq_true HRR.out with h | h | h | h
          · exact .inl ⟨h.1, trivial⟩
          · exact .inr (.inl ⟨h.1, trivial⟩)
          · exact .inr (.inr (.inl ⟨h.1, h.2.2⟩))
          · exact .inr (.inr (.inr ⟨h.1, trivial⟩))
        have hSJ : S.data.toList = J := by rw [← HSJ.out]
        have b3' : t2.length ≤ 31 ∨ ¬ (t1 = 1 ∨ t1 = 4) := by
          have hrr := of_decide_eq_true HRR.out
          dsimp only at hrr
          rcases hrr with h | h | h | h
          · have := (of_decide_eq_true h.2.2).2.1; exact .inl (by omega)
          · exact .inr (by rw [h.1]; decide)
          · exact .inr (by rw [h.1]; decide)
          · exact .inl (by have := h.2.2.1; omega)
        by_cases hS0 : J = []
        · have hie : S.toList.isEmpty = true := by rw [ByteArray.toList_eq, hSJ, hS0]; rfl
          have hne : S.toList = [] := by rw [ByteArray.toList_eq, hSJ, hS0]
          rcases hk with ⟨rfl, hx⟩ | ⟨rfl, hx⟩ | ⟨rfl, hx⟩ | ⟨rfl, hx⟩
          · obtain ⟨X, hX⟩ : ∃ X : ByteArray, ⟨t2.toArray⟩ = X := ⟨_, rfl⟩
            have hXs : X.size ≤ 31 := by
              rw [← hX]
              rcases b3' with h | h
              · simpa [ByteArray.size] using h
              · exact absurd (by simp) h
            have HJ : Hid ((⟨(joinT (l.take (j + 1))).toArray⟩ : ByteArray) = S ++ X) := Lib.hid (by
              rw [HTK.out, joinT_app_yes _ _ HRR.out, HJJ.out, if_pos hS0]
              apply ByteArray.ext
              apply Array.toList_inj.1
              simp [ByteArray.data_append, textT, hSJ, hS0, ← hX])
            rw [hX] at c1
            clear hx hS0 hSJ b3' hX
            go_wp2
            go_roundw
            case rel => exact ⟨j + 1, by omega, by first | rfl | (rw [HJ.out]; rfl) | (rw [HJ.out]), by go_num, HB3⟩
            case measure => simp [intOf]; omega
          · have HTO := Lib.hid (told_any t3 b4 b5)
            have hil := itoa_len t3 b4 b5
            obtain ⟨X, hX⟩ : ∃ X : ByteArray, ⟨(Lib.itoa t3).toArray⟩ = X := ⟨_, rfl⟩
            have hXs : X.size ≤ 20 := by rw [← hX]; simpa [ByteArray.size] using hil
            have HJ : Hid ((⟨(joinT (l.take (j + 1))).toArray⟩ : ByteArray) = S ++ X) := Lib.hid (by
              rw [HTK.out, joinT_app_yes _ _ HRR.out, HJJ.out, if_pos hS0]
              apply ByteArray.ext
              apply Array.toList_inj.1
              simp [ByteArray.data_append, textT, hSJ, hS0, ← hX])
            rw [hX] at HTO
            clear hx hS0 hX hil hSJ b3'
            go_wp2_with fail
            (with_reducible refine (HTO.out _).mono ?_)
            rintro e w4 ⟨rfl, k⟩
            have HB3 := Lib.hid (HB3.out.trans (k.mono HB3.out.size))
            clear k
            go_wp2
            go_roundw
            case rel => exact ⟨j + 1, by omega, by first | rfl | (rw [HJ.out]; rfl) | (rw [HJ.out]), by go_num, HB3⟩
            case measure => simp [intOf]; omega
          · have HTO := Lib.hid (first_text t3 hx)
            have hil := (dtx_spec t3 hx).2.2.2
            obtain ⟨X, hX⟩ : ∃ X : ByteArray, ⟨(dtx t3).toArray⟩ = X := ⟨_, rfl⟩
            have hXs : X.size ≤ 20 := by rw [← hX]; simpa [ByteArray.size] using hil
            have HJ : Hid ((⟨(joinT (l.take (j + 1))).toArray⟩ : ByteArray) = S ++ ⟨#[64]⟩ ++ X) := Lib.hid (by
              rw [HTK.out, joinT_app_yes _ _ HRR.out, HJJ.out, if_pos hS0]
              apply ByteArray.ext
              apply Array.toList_inj.1
              simp [ByteArray.data_append, textT, hSJ, hS0, ← hX])
            rw [hX] at HTO
            clear hx hS0 hX hil hSJ b3'
            go_wp2_with fail
            (with_reducible refine (HTO.out _).mono ?_)
            rintro e w4 ⟨g, m, cap, rfl, hm1, hm2, hcg, k⟩
            have hm0 : (0 : Int) < (m : Int) := by omega
            have HB3 := Lib.hid (HB3.out.trans (k.mono HB3.out.size))
            clear k
            go_wp2
            go_roundw
            case rel => exact ⟨j + 1, by omega, by first | rfl | (rw [HJ.out]; rfl) | (rw [HJ.out]), by go_num, HB3⟩
            case measure => simp [intOf]; omega
          · obtain ⟨X, hX⟩ : ∃ X : ByteArray, ⟨t2.toArray⟩ = X := ⟨_, rfl⟩
            have hXs : X.size ≤ 31 := by
              rw [← hX]
              rcases b3' with h | h
              · simpa [ByteArray.size] using h
              · exact absurd (by simp) h
            have HJ : Hid ((⟨(joinT (l.take (j + 1))).toArray⟩ : ByteArray) = S ++ X) := Lib.hid (by
              rw [HTK.out, joinT_app_yes _ _ HRR.out, HJJ.out, if_pos hS0]
              apply ByteArray.ext
              apply Array.toList_inj.1
              simp [ByteArray.data_append, textT, hSJ, hS0, ← hX])
            rw [hX] at c1
            clear hx hS0 hSJ b3' hX
            go_wp2
            go_roundw
            case rel => exact ⟨j + 1, by omega, by first | rfl | (rw [HJ.out]; rfl) | (rw [HJ.out]), by go_num, HB3⟩
            case measure => simp [intOf]; omega
        · have hne : ¬ S.toList = [] := by rw [ByteArray.toList_eq, hSJ]; exact hS0
          have hie : S.toList.isEmpty = false := by rw [List.isEmpty_eq_false_iff]; exact hne
          rcases hk with ⟨rfl, hx⟩ | ⟨rfl, hx⟩ | ⟨rfl, hx⟩ | ⟨rfl, hx⟩
          · obtain ⟨X, hX⟩ : ∃ X : ByteArray, ⟨t2.toArray⟩ = X := ⟨_, rfl⟩
            have hXs : X.size ≤ 31 := by
              rw [← hX]
              rcases b3' with h | h
              · simpa [ByteArray.size] using h
              · exact absurd (by simp) h
            have HJ : Hid ((⟨(joinT (l.take (j + 1))).toArray⟩ : ByteArray) = S ++ ⟨#[32]⟩ ++ X) := Lib.hid (by
              rw [HTK.out, joinT_app_yes _ _ HRR.out, HJJ.out, if_neg hS0]
              apply ByteArray.ext
              apply Array.toList_inj.1
              simp [ByteArray.data_append, textT, hSJ, hS0, ← hX])
            rw [hX] at c1
            clear hx hS0 hSJ b3' hX
            go_wp2
            go_roundw
            case rel => exact ⟨j + 1, by omega, by first | rfl | (rw [HJ.out]; rfl) | (rw [HJ.out]), by go_num, HB3⟩
            case measure => simp [intOf]; omega
          · have HTO := Lib.hid (told_any t3 b4 b5)
            have hil := itoa_len t3 b4 b5
            obtain ⟨X, hX⟩ : ∃ X : ByteArray, ⟨(Lib.itoa t3).toArray⟩ = X := ⟨_, rfl⟩
            have hXs : X.size ≤ 20 := by rw [← hX]; simpa [ByteArray.size] using hil
            have HJ : Hid ((⟨(joinT (l.take (j + 1))).toArray⟩ : ByteArray) = S ++ ⟨#[32]⟩ ++ X) := Lib.hid (by
              rw [HTK.out, joinT_app_yes _ _ HRR.out, HJJ.out, if_neg hS0]
              apply ByteArray.ext
              apply Array.toList_inj.1
              simp [ByteArray.data_append, textT, hSJ, hS0, ← hX])
            rw [hX] at HTO
            clear hx hS0 hX hil hSJ b3'
            go_wp2_with fail
            (with_reducible refine (HTO.out _).mono ?_)
            rintro e w4 ⟨rfl, k⟩
            have HB3 := Lib.hid (HB3.out.trans (k.mono HB3.out.size))
            clear k
            go_wp2
            go_roundw
            case rel => exact ⟨j + 1, by omega, by first | rfl | (rw [HJ.out]; rfl) | (rw [HJ.out]), by go_num, HB3⟩
            case measure => simp [intOf]; omega
          · have HTO := Lib.hid (first_text t3 hx)
            have hil := (dtx_spec t3 hx).2.2.2
            obtain ⟨X, hX⟩ : ∃ X : ByteArray, ⟨(dtx t3).toArray⟩ = X := ⟨_, rfl⟩
            have hXs : X.size ≤ 20 := by rw [← hX]; simpa [ByteArray.size] using hil
            have HJ : Hid ((⟨(joinT (l.take (j + 1))).toArray⟩ : ByteArray) = S ++ ⟨#[32]⟩ ++ ⟨#[64]⟩ ++ X) := Lib.hid (by
              rw [HTK.out, joinT_app_yes _ _ HRR.out, HJJ.out, if_neg hS0]
              apply ByteArray.ext
              apply Array.toList_inj.1
              simp [ByteArray.data_append, textT, hSJ, hS0, ← hX])
            rw [hX] at HTO
            clear hx hS0 hX hil hSJ b3'
            go_wp2_with fail
            (with_reducible refine (HTO.out _).mono ?_)
            rintro e w4 ⟨g, m, cap, rfl, hm1, hm2, hcg, k⟩
            have hm0 : (0 : Int) < (m : Int) := by omega
            have HB3 := Lib.hid (HB3.out.trans (k.mono HB3.out.size))
            clear k
            go_wp2
            go_roundw
            case rel => exact ⟨j + 1, by omega, by first | rfl | (rw [HJ.out]; rfl) | (rw [HJ.out]), by go_num, HB3⟩
            case measure => simp [intOf]; omega
          · obtain ⟨X, hX⟩ : ∃ X : ByteArray, ⟨t2.toArray⟩ = X := ⟨_, rfl⟩
            have hXs : X.size ≤ 31 := by
              rw [← hX]
              rcases b3' with h | h
              · simpa [ByteArray.size] using h
              · exact absurd (by simp) h
            have HJ : Hid ((⟨(joinT (l.take (j + 1))).toArray⟩ : ByteArray) = S ++ ⟨#[32]⟩ ++ X) := Lib.hid (by
              rw [HTK.out, joinT_app_yes _ _ HRR.out, HJJ.out, if_neg hS0]
              apply ByteArray.ext
              apply Array.toList_inj.1
              simp [ByteArray.data_append, textT, hSJ, hS0, ← hX])
            rw [hX] at c1
            clear hx hS0 hSJ b3' hX
            go_wp2
            go_roundw
            case rel => exact ⟨j + 1, by omega, by first | rfl | (rw [HJ.out]; rfl) | (rw [HJ.out]), by go_num, HB3⟩
            case measure => simp [intOf]; omega
    · obtain rfl : j = n := by omega
      have HJ : Hid (joinT (l.take j) = joinT l) := Lib.hid (by rw [List.take_of_length_le (by rw [HL.out.len]; exact Nat.le_refl _)])
      go_wp2
      go_returns
      exact ⟨by rw [← HJ.out]; rfl, HB.out⟩
end Go.Proofs.YthkddellilhhaaaGreatDoor
