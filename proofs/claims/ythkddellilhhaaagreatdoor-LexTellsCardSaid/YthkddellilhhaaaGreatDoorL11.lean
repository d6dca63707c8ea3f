/- lex: a token's text. -/
import Derived.Test.YthkddellilhhaaaGreatDoorL10
namespace Go.Proofs.YthkddellilhhaaaGreatDoor
set_option linter.unusedVariables false
set_option linter.unusedSimpArgs false
open Go.ChangeShapes Go.WideShapes Go.ChangeAt Go.RowKit
/-- A right token's text. -/
noncomputable def textT (t : Lx.Tk) : List UInt8 := if t.1 = 2 then Lib.itoa t.2.2 else if t.1 = 3 then 64 :: dtx t.2.2 else t.2.1
theorem dec_len : ∀ (k u : Nat), u < 10 ^ k → 0 < k → (Lib.decDigits u).length ≤ k
  | 0, _, _, h => absurd h (Nat.lt_irrefl _)
  | 1, u, h, _ => by rw [Lib.decDigits, dif_pos (by omega)]; simp
  | k + 2, u, h, _ => by
    rw [Lib.decDigits]
    split
    · simp
    · have := dec_len (k + 1) (u / 10) (by rw [Nat.pow_succ] at h; omega) (by omega)
      simp; omega
theorem itoa_len (n : Int) (h0 : -9223372036854775808 ≤ n) (h1 : n ≤ 9223372036854775807) : (Lib.itoa n).length ≤ 20 := by
  unfold Lib.itoa
  split
  · have := dec_len 19 n.natAbs (by omega) (by omega)
    simp; omega
  · have := dec_len 19 n.toNat (by omega) (by omega)
    omega
theorem text_len {t : Lx.Tk} (h : rightT t = true) (h0 : -9223372036854775808 ≤ t.2.2) (h1 : t.2.2 ≤ 9223372036854775807) : (textT t).length ≤ 30 := by
  have h := of_decide_eq_true h
  unfold textT
  split
  · have := itoa_len t.2.2 h0 h1; omega
  · split
    · rename_i h2 h3
      rcases h with h | h | h | h
      · omega
      · omega
      · have := (dtx_spec t.2.2 h.2.2).2.2.2; simp; omega
      · omega
    · rename_i h2 h3
      rcases h with h | h | h | h
      · have := of_decide_eq_true h.2.2; omega
      · omega
      · omega
      · omega
theorem itoaW (n : Int) (h0 : -9223372036854775808 ≤ n) (h1 : n ≤ 9223372036854775807) (w : World) (hT : Tx w) : Calls Tryz.prog 44 #[.int .i64 n, .int .i64 10] w fun e w' => e = .returned (.string ⟨(Lib.itoa n).toArray⟩) ∧ Below w.heap.size w w' :=
  (Tryz.strconv_FormatInt_10 n h0 h1 w hT.tabs.2).mono fun e w' ⟨he, k, os, hw⟩ => ⟨he, hw ▸ grow_below w k os⟩
set_option maxHeartbeats 2000000 in
theorem text_any (a1 : Int) (a2 : List UInt8) (a3 : Int) (w : World) (hT : Tx w) (h0 : 0 ≤ a1) (h1 : a1 ≤ 255) (h2 : -9223372036854775808 ≤ a3) (h3 : a3 ≤ 9223372036854775807) (hr : rightT (a1, a2, a3) = true) :
    Calls Tryz.prog 23 #[.agg #[.int .u8 a1, .string ⟨a2.toArray⟩, .int .i64 a3]] w fun e w' => e = .returned (.string ⟨(textT (a1, a2, a3)).toArray⟩) ∧ Below w.heap.size w w' := by
  have hri := of_decide_eq_true hr
  obtain ⟨R, hR⟩ : ∃ R, textT (a1, a2, a3) = R := ⟨_, rfl⟩
  rw [hR]
  have HR := Lib.hid hR
  clear hR
  obtain ⟨b, hb⟩ : ∃ z, w.heap.size = z := ⟨_, rfl⟩
  obtain ⟨w1, hw1⟩ : ∃ z, w.alloc (.cells #[.int .u8 a1, .string ⟨a2.toArray⟩, .int .i64 a3] 27) = z := ⟨_, rfl⟩
  have KA : Below w.heap.size w w1 := by rw [← hw1]; exact (Below.refl _ w).alloc (Nat.le_refl _) _
  have XB : w1.heap[b]? = some (.cells #[.int .u8 a1, .string ⟨a2.toArray⟩, .int .i64 a3] 27 (0, 0)) := by rw [← hw1, ← hb, al_new]
  have HKA := Lib.hid KA
  have HTX := Lib.hid (hT.keep KA)
  have e0 := cell_blk XB 0
  have e1 := cell_blk XB 1
  have e2 := cell_blk XB 2
  have HXB := Lib.hid XB
  have HRI := Lib.hid hri
  clear KA hT XB hri hr
  by_cases k2 : a1 = 2
  · subst k2
    have HI := Lib.hid (itoaW a3 h2 h3 w1 HTX.out)
    obtain rfl := HR.out
    have HRR : Hid (textT (2, a2, a3) = Lib.itoa a3) := Lib.hid (by unfold textT; rw [if_pos rfl])
    rw [HRR.out]
    go_enter Tryz.func23, Tryz.ntmps23
    go_wp2_with fail
    (with_reducible refine HI.out.mono ?_)
    rintro e w2 ⟨rfl, k⟩
    have HF := Lib.hid (HKA.out.trans (k.mono HKA.out.size))
    clear e0 e1 e2 k
    go_wp2
    go_returns
    exact ⟨rfl, HF.out⟩
  · have k2' : (a1 == 2) = false := by simp [k2]
    by_cases k3 : a1 = 3
    · subst k3
      have hd : dok a3 = true := by
        rcases HRI.out with h | h | h | h
        · have := h.1; omega
        · have := h.1; omega
        · exact h.2.2
        · have := h.1; omega
      have HD := Lib.hid (dtext_ok a3 w1 HTX.out hd)
      have hl := (dtx_spec a3 hd).2.2.2
      obtain rfl := HR.out
      have HRR : Hid (textT (3, a2, a3) = 64 :: dtx a3) := Lib.hid (by unfold textT; rw [if_neg (show ¬ ((3 : Int) = 2) by decide), if_pos rfl])
      rw [HRR.out]
      obtain ⟨X, hX⟩ : ∃ X, dtx a3 = X := ⟨_, rfl⟩
      rw [hX] at HD hl ⊢
      have hsz : (⟨X.toArray⟩ : ByteArray).size ≤ 20 := by simpa [ByteArray.size] using hl
      have HAP : Hid ((⟨#[64]⟩ : ByteArray) ++ ⟨X.toArray⟩ = ⟨(64 :: X).toArray⟩) := Lib.hid (by apply ByteArray.ext; simp)
      rw [← HAP.out]
      obtain ⟨Y, hY⟩ : ∃ Y : ByteArray, (⟨X.toArray⟩ : ByteArray) = Y := ⟨_, rfl⟩
      rw [hY] at HD hsz ⊢
      have hone : (⟨#[64]⟩ : ByteArray).size = 1 := rfl
      clear hX hl hd hY HAP HRR
      go_enter Tryz.func23, Tryz.ntmps23
      go_wp2_with fail
      (with_reducible refine HD.out.mono ?_)
      rintro e w2 ⟨rfl, k⟩
      have HF := Lib.hid (HKA.out.trans (k.mono HKA.out.size))
      clear e0 e1 e2 k
      go_wp2
      go_returns
      exact ⟨rfl, HF.out⟩
    · have k3' : (a1 == 3) = false := by simp [k3]
      obtain rfl : R = a2 := by rw [← HR.out]; unfold textT; rw [if_neg k2, if_neg k3]
      go_enter Tryz.func23, Tryz.ntmps23
      go_wp2
      go_returns
      exact ⟨rfl, by first | exact HKA.out | (rw [← hb]; exact HKA.out)⟩

end Go.Proofs.YthkddellilhhaaaGreatDoor
