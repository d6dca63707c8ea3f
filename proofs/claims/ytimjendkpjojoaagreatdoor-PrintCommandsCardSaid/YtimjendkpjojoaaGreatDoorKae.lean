/- L6 in one. -/
import Derived.Test.YtimjendkpjojoaaGreatDoorKac
namespace Go.Proofs.YtimjendkpjojoaaGreatDoor
set_option linter.unusedVariables false
set_option linter.unusedSimpArgs false
open Go.ChangeShapes Go.WideShapes Go.ChangeAt Go.RowKit
set_option maxHeartbeats 2000000 in
theorem first_any (s : ByteArray) (w : World) (hT : Tx w) (h0 : 0 < s.size) (hs : s.size ≤ 1048576) :
    Calls Tryz.prog 24 #[.string s] w fun e w' => e = .returned (fstV (Lx.first readOf piOf s.data.toList)) ∧ Below w.heap.size w w' := by
  obtain ⟨c, hc⟩ : ∃ c, s[0]'h0 = c := ⟨_, rfl⟩
  have hl : s.data.toList = c :: s.data.toList.drop 1 := by
    have := drop_at s 0 h0
    rw [List.drop_zero, hc] at this
    exact this
  obtain ⟨r, hr⟩ : ∃ r, s.data.toList.drop 1 = r := ⟨_, rfl⟩
  rw [hr] at hl
  have HM := Lib.hid (fun W => Tryz.strings_IndexByte ⟨#[40, 41, 44, 61, 58, 91, 93]⟩ (c.toNat : Int) W)
  rw [show (⟨#[40, 41, 44, 61, 58, 91, 93]⟩ : ByteArray).data.toList = [40, 41, 44, 61, 58, 91, 93] from rfl, show ((c.toNat : Int).toNat).toUInt8 = c by simp] at HM
  have hix := idx_marks c
  have hig := Lib.indexByte_ge [40, 41, 44, 61, 58, 91, 93] c
  obtain ⟨ix, hx⟩ : ∃ z, Lib.indexByte [40, 41, 44, 61, 58, 91, 93] c = z := ⟨_, rfl⟩
  rw [hx] at HM hix hig
  have HD := Lib.hid (fun W => digit_any c W)
  have HDAY := Lib.hid (fun W (h : Tx W) => day_any s W h h0 hs)
  have HNUM := Lib.hid (fun W (h : Tx W) => number_any s W h h0 hs)
  rw [hr] at HDAY
  rw [hl] at HNUM
  obtain ⟨x, hxx⟩ : ∃ x : Int, (c.toNat : Int) = x := ⟨_, rfl⟩
  have hgc : ((s[0]'h0).toNat : Int) = x := by rw [hc]; exact hxx
  have xb := u8c c
  rw [hxx] at xb HM HD
  have hk64 : c = 64 ↔ x = 64 := by rw [← hxx]; exact ⟨fun h => by rw [h]; rfl, fun h => UInt8.toNat_inj.1 (by have : (64 : UInt8).toNat = 64 := rfl; omega)⟩
  have hk45 : c = 45 ↔ x = 45 := by rw [← hxx]; exact ⟨fun h => by rw [h]; rfl, fun h => UInt8.toNat_inj.1 (by have : (45 : UInt8).toNat = 45 := rfl; omega)⟩
  obtain ⟨b, hb⟩ : ∃ z, w.heap.size = z := ⟨_, rfl⟩
  obtain ⟨w1, hw1⟩ : ∃ z, w.alloc (.cells #[.int .u8 0, .string ⟨#[]⟩, .int .i64 0] 60) = z := ⟨_, rfl⟩
  have KA : Below w.heap.size w w1 := by rw [← hw1]; exact (Below.refl _ w).alloc (Nat.le_refl _) _
  have XB : Hid (w1.heap[b]? = some (.cells #[.int .u8 0, .string ⟨#[]⟩, .int .i64 0] 60 (0, 0))) := Lib.hid (by rw [← hw1, ← hb, al_new])
  have HKA := Lib.hid KA
  have HBL : Hid (w.heap.size ≤ b) := Lib.hid (by omega)
  have HTX := Lib.hid (hT.keep KA)
  obtain ⟨R, hR⟩ : ∃ R, Lx.first readOf piOf s.data.toList = R := ⟨_, rfl⟩
  have HR : Hid (Lx.first readOf piOf (c :: r) = R) := Lib.hid (by rw [← hR, hl])
  have HS1 : Hid (s.extract 0 1 = ⟨[c].toArray⟩) := Lib.hid (by rw [Lib.extract_eq, hl]; rfl)
  obtain ⟨n, hn⟩ : ∃ n, Lx.run Lx.ltr s.data.toList = n := ⟨_, rfl⟩
  have hnl := Lx.run_le Lx.ltr s.data.toList
  rw [hn, ← Lib.size_eq] at hnl
  have HRL := Lib.hid (fun W => runL s W (by unfold maxLen; omega))
  rw [hn] at HRL
  have HN : Hid ((s.extract 0 n).data.toList = (c :: r).take n) := Lib.hid (by rw [Lib.extract_data, hl]; simp)
  have HN2 : Hid (s.extract 0 n = ⟨((c :: r).take n).toArray⟩) := Lib.hid (by rw [Lib.extract_eq, hl]; simp)
  have HNM := Lib.hid (fun W => name_any (s.extract 0 n) W (by rw [Lib.size_eq, HN.out, List.length_take]; unfold maxLen; omega))
  rw [HN.out] at HNM
  have HRN : Hid (Lx.run Lx.ltr (c :: r) = n) := Lib.hid (by rw [← hl]; exact hn)
  have s1 : (s.size : Int) ≤ 1048576 := by omega
  have s0 : (1 : Int) ≤ (s.size : Int) := by omega
  have n0 : (0 : Int) ≤ (n : Int) := by omega
  have n1 : (n : Int) ≤ (s.size : Int) := by omega
  have HX := Lib.hid hxx
  rw [hR]
  clear hR hl hr hc KA hT hn hnl hx hxx
  cases hm : Lx.mrk c
  · have hix2 : ¬ 0 ≤ ix := fun z => by have := hix.1 z; rw [hm] at this; cases this
    have i1 : decide ((0 : Int) ≤ ix) = false := decide_eq_false hix2
    have i2 : ix < 0 := by omega
    by_cases k64 : x = 64
    · have k1 : (x == 64) = true := by simp [k64]
      have HR2 : Hid (R = dayT r) := Lib.hid (by rw [← HR.out]; unfold Lx.first dayT; dsimp only; rw [hm, if_neg (by decide), if_pos (hk64.2 k64)]; cases readOf (List.take (Lx.run Lx.dlt r) r) <;> rfl)
      obtain ⟨Q, hQ⟩ : ∃ Q, dayT r = Q := ⟨_, rfl⟩
      rw [hQ] at HDAY HR2
      obtain rfl := HR2.out
      clear hQ hm hix hk64 hk45 k64
      cases R with
      | none =>
        have HDAY : Hid (∀ W, Tx W → Calls Tryz.prog 46 #[.string s] W fun e w' => e = .returned (.tuple #[.agg #[.int .u8 0, .string ⟨#[]⟩, .int .i64 0], .int .i64 0]) ∧ Below W.heap.size W w') := HDAY
        go_enter Tryz.func24, Tryz.ntmps24
        go_wp2_with (first | ((with_reducible refine (HM.out _).mono ?_); rintro e w' ⟨rfl, rfl⟩) | ((with_reducible refine (HDAY.out _ HTX.out).mono ?_); rintro e w2 ⟨rfl, q⟩; have XB2 := blk_keep XB.out q; have r0 := cell_blk XB2 0; have r1 := cell_blk XB2 1; have r2 := cell_blk XB2 2; have f0 := blk_free XB2 0; have f1 := blk_free XB2 1; have f2 := blk_free XB2 2))
        have XE := box_set XB2 (.int .u8 0) (.string ⟨#[]⟩) (.int .i64 0)
        have KE := box_end HKA.out HBL.out (.int .u8 0) (.string ⟨#[]⟩) (.int .i64 0) q
        obtain ⟨wf, hwf⟩ : ∃ z, (((w2.setCell ⟨b, 0, none⟩ (.int .u8 0)).setCell ⟨b, 1, none⟩ (.string ⟨#[]⟩)).setCell ⟨b, 2, none⟩ (.int .i64 0)) = z := ⟨_, rfl⟩
        rw [hwf] at XE KE ⊢
        clear r0 r1 r2 f0 f1 f2 hwf
        have r0 := cell_blk XE 0
        have r1 := cell_blk XE 1
        have r2 := cell_blk XE 2
        exact bodyPost_ret (v := .tuple #[.agg #[.int .u8 0, .string ⟨#[]⟩, .int .i64 0], .int .i64 0]) (by simp [results, Tryz.results24, go_sem, r0, r1, r2]) rfl ⟨rfl, KE⟩
      | some y =>
        obtain ⟨⟨a1, a2, a3⟩, a4⟩ := y
        have HDAY : Hid (∀ W, Tx W → Calls Tryz.prog 46 #[.string s] W fun e w' => e = .returned (.tuple #[.agg #[.int .u8 a1, .string ⟨a2.toArray⟩, .int .i64 a3], .int .i64 (a4 : Int)]) ∧ Below W.heap.size W w') := HDAY
        go_enter Tryz.func24, Tryz.ntmps24
        go_wp2_with (first | ((with_reducible refine (HM.out _).mono ?_); rintro e w' ⟨rfl, rfl⟩) | ((with_reducible refine (HDAY.out _ HTX.out).mono ?_); rintro e w2 ⟨rfl, q⟩; have XB2 := blk_keep XB.out q; have r0 := cell_blk XB2 0; have r1 := cell_blk XB2 1; have r2 := cell_blk XB2 2; have f0 := blk_free XB2 0; have f1 := blk_free XB2 1; have f2 := blk_free XB2 2))
        have XE := box_set XB2 (.int .u8 a1) (.string ⟨a2.toArray⟩) (.int .i64 a3)
        have KE := box_end HKA.out HBL.out (.int .u8 a1) (.string ⟨a2.toArray⟩) (.int .i64 a3) q
        obtain ⟨wf, hwf⟩ : ∃ z, (((w2.setCell ⟨b, 0, none⟩ (.int .u8 a1)).setCell ⟨b, 1, none⟩ (.string ⟨a2.toArray⟩)).setCell ⟨b, 2, none⟩ (.int .i64 a3)) = z := ⟨_, rfl⟩
        rw [hwf] at XE KE ⊢
        clear r0 r1 r2 f0 f1 f2 hwf
        have r0 := cell_blk XE 0
        have r1 := cell_blk XE 1
        have r2 := cell_blk XE 2
        exact bodyPost_ret (v := .tuple #[.agg #[.int .u8 a1, .string ⟨a2.toArray⟩, .int .i64 a3], .int .i64 (a4 : Int)]) (by simp [results, Tryz.results24, go_sem, r0, r1, r2]) rfl ⟨rfl, KE⟩
    · have k1 : (x == 64) = false := by simp [k64]
      have HF1 : Hid (Lx.first readOf piOf (c :: r) = if c = 45 ∨ Lx.dgt c = true then numT (Lx.num piOf (c :: r)) else if Lx.nameOk ((c :: r).take n) = true then some ((1, (c :: r).take n, 0), n) else none) := Lib.hid (by
        unfold Lx.first
        dsimp only
        rw [hm, if_neg (by decide), if_neg (fun z => k64 (hk64.1 z)), HRN.out]
        unfold numT
        cases Lx.num piOf (c :: r) <;> rfl)
      obtain ⟨q, hq⟩ : ∃ q, Lx.dgt c = q := ⟨_, rfl⟩
      rw [hq] at HD HF1
      clear hix hk64 k64
      by_cases k45 : x = 45 ∨ q = true
      · have HR2 : Hid (R = numT (Lx.num piOf (c :: r))) := Lib.hid (by rw [← HR.out, HF1.out, if_pos (k45.imp hk45.2 id)])
        obtain ⟨Q, hQ⟩ : ∃ Q, numT (Lx.num piOf (c :: r)) = Q := ⟨_, rfl⟩
        rw [hQ] at HNUM HR2
        obtain rfl := HR2.out
        clear hQ hm hk45 hq
        have two : (x == 45) = true ∨ ((x == 45) = false ∧ q = true) := by
          by_cases z : x = 45
          · left; simp [z]
          · right; exact ⟨by simp [z], k45.resolve_left z⟩
        clear k45
        cases R with
        | none =>
          have HNUM : Hid (∀ W, Tx W → Calls Tryz.prog 48 #[.string s] W fun e w' => e = .returned (.tuple #[.agg #[.int .u8 0, .string ⟨#[]⟩, .int .i64 0], .int .i64 0]) ∧ Below W.heap.size W w') := HNUM
          rcases two with e1 | ⟨e1, rfl⟩
          · skip
            go_enter Tryz.func24, Tryz.ntmps24
            go_wp2_with (first | ((with_reducible refine (HM.out _).mono ?_); rintro e w' ⟨rfl, rfl⟩) | ((with_reducible refine (HNUM.out _ HTX.out).mono ?_); rintro e w2 ⟨rfl, q⟩; have XB2 := blk_keep XB.out q; have r0 := cell_blk XB2 0; have r1 := cell_blk XB2 1; have r2 := cell_blk XB2 2; have f0 := blk_free XB2 0; have f1 := blk_free XB2 1; have f2 := blk_free XB2 2))
            have XE := box_set XB2 (.int .u8 0) (.string ⟨#[]⟩) (.int .i64 0)
            have KE := box_end HKA.out HBL.out (.int .u8 0) (.string ⟨#[]⟩) (.int .i64 0) q
            obtain ⟨wf, hwf⟩ : ∃ z, (((w2.setCell ⟨b, 0, none⟩ (.int .u8 0)).setCell ⟨b, 1, none⟩ (.string ⟨#[]⟩)).setCell ⟨b, 2, none⟩ (.int .i64 0)) = z := ⟨_, rfl⟩
            rw [hwf] at XE KE ⊢
            clear r0 r1 r2 f0 f1 f2 hwf
            have r0 := cell_blk XE 0
            have r1 := cell_blk XE 1
            have r2 := cell_blk XE 2
            exact bodyPost_ret (v := .tuple #[.agg #[.int .u8 0, .string ⟨#[]⟩, .int .i64 0], .int .i64 0]) (by simp [results, Tryz.results24, go_sem, r0, r1, r2]) rfl ⟨rfl, KE⟩
          · skip
            go_enter Tryz.func24, Tryz.ntmps24
            go_wp2_with (first | ((with_reducible refine (HM.out _).mono ?_); rintro e w' ⟨rfl, rfl⟩) | ((with_reducible refine (HD.out _).mono ?_); rintro e w4 ⟨rfl, rfl⟩) | ((with_reducible refine (HNUM.out _ HTX.out).mono ?_); rintro e w2 ⟨rfl, q⟩; have XB2 := blk_keep XB.out q; have r0 := cell_blk XB2 0; have r1 := cell_blk XB2 1; have r2 := cell_blk XB2 2; have f0 := blk_free XB2 0; have f1 := blk_free XB2 1; have f2 := blk_free XB2 2))
            have XE := box_set XB2 (.int .u8 0) (.string ⟨#[]⟩) (.int .i64 0)
            have KE := box_end HKA.out HBL.out (.int .u8 0) (.string ⟨#[]⟩) (.int .i64 0) q
            obtain ⟨wf, hwf⟩ : ∃ z, (((w2.setCell ⟨b, 0, none⟩ (.int .u8 0)).setCell ⟨b, 1, none⟩ (.string ⟨#[]⟩)).setCell ⟨b, 2, none⟩ (.int .i64 0)) = z := ⟨_, rfl⟩
            rw [hwf] at XE KE ⊢
            clear r0 r1 r2 f0 f1 f2 hwf
            have r0 := cell_blk XE 0
            have r1 := cell_blk XE 1
            have r2 := cell_blk XE 2
            exact bodyPost_ret (v := .tuple #[.agg #[.int .u8 0, .string ⟨#[]⟩, .int .i64 0], .int .i64 0]) (by simp [results, Tryz.results24, go_sem, r0, r1, r2]) rfl ⟨rfl, KE⟩
        | some y =>
          obtain ⟨⟨a1, a2, a3⟩, a4⟩ := y
          have HNUM : Hid (∀ W, Tx W → Calls Tryz.prog 48 #[.string s] W fun e w' => e = .returned (.tuple #[.agg #[.int .u8 a1, .string ⟨a2.toArray⟩, .int .i64 a3], .int .i64 (a4 : Int)]) ∧ Below W.heap.size W w') := HNUM
          rcases two with e1 | ⟨e1, rfl⟩
          · skip
            go_enter Tryz.func24, Tryz.ntmps24
            go_wp2_with (first | ((with_reducible refine (HM.out _).mono ?_); rintro e w' ⟨rfl, rfl⟩) | ((with_reducible refine (HNUM.out _ HTX.out).mono ?_); rintro e w2 ⟨rfl, q⟩; have XB2 := blk_keep XB.out q; have r0 := cell_blk XB2 0; have r1 := cell_blk XB2 1; have r2 := cell_blk XB2 2; have f0 := blk_free XB2 0; have f1 := blk_free XB2 1; have f2 := blk_free XB2 2))
            have XE := box_set XB2 (.int .u8 a1) (.string ⟨a2.toArray⟩) (.int .i64 a3)
            have KE := box_end HKA.out HBL.out (.int .u8 a1) (.string ⟨a2.toArray⟩) (.int .i64 a3) q
            obtain ⟨wf, hwf⟩ : ∃ z, (((w2.setCell ⟨b, 0, none⟩ (.int .u8 a1)).setCell ⟨b, 1, none⟩ (.string ⟨a2.toArray⟩)).setCell ⟨b, 2, none⟩ (.int .i64 a3)) = z := ⟨_, rfl⟩
            rw [hwf] at XE KE ⊢
            clear r0 r1 r2 f0 f1 f2 hwf
            have r0 := cell_blk XE 0
            have r1 := cell_blk XE 1
            have r2 := cell_blk XE 2
            exact bodyPost_ret (v := .tuple #[.agg #[.int .u8 a1, .string ⟨a2.toArray⟩, .int .i64 a3], .int .i64 (a4 : Int)]) (by simp [results, Tryz.results24, go_sem, r0, r1, r2]) rfl ⟨rfl, KE⟩
          · skip
            go_enter Tryz.func24, Tryz.ntmps24
            go_wp2_with (first | ((with_reducible refine (HM.out _).mono ?_); rintro e w' ⟨rfl, rfl⟩) | ((with_reducible refine (HD.out _).mono ?_); rintro e w4 ⟨rfl, rfl⟩) | ((with_reducible refine (HNUM.out _ HTX.out).mono ?_); rintro e w2 ⟨rfl, q⟩; have XB2 := blk_keep XB.out q; have r0 := cell_blk XB2 0; have r1 := cell_blk XB2 1; have r2 := cell_blk XB2 2; have f0 := blk_free XB2 0; have f1 := blk_free XB2 1; have f2 := blk_free XB2 2))
            have XE := box_set XB2 (.int .u8 a1) (.string ⟨a2.toArray⟩) (.int .i64 a3)
            have KE := box_end HKA.out HBL.out (.int .u8 a1) (.string ⟨a2.toArray⟩) (.int .i64 a3) q
            obtain ⟨wf, hwf⟩ : ∃ z, (((w2.setCell ⟨b, 0, none⟩ (.int .u8 a1)).setCell ⟨b, 1, none⟩ (.string ⟨a2.toArray⟩)).setCell ⟨b, 2, none⟩ (.int .i64 a3)) = z := ⟨_, rfl⟩
            rw [hwf] at XE KE ⊢
            clear r0 r1 r2 f0 f1 f2 hwf
            have r0 := cell_blk XE 0
            have r1 := cell_blk XE 1
            have r2 := cell_blk XE 2
            exact bodyPost_ret (v := .tuple #[.agg #[.int .u8 a1, .string ⟨a2.toArray⟩, .int .i64 a3], .int .i64 (a4 : Int)]) (by simp [results, Tryz.results24, go_sem, r0, r1, r2]) rfl ⟨rfl, KE⟩
      · have e1 : (x == 45) = false := by
          have : ¬ x = 45 := fun z => k45 (.inl z)
          simp [this]
        obtain rfl : q = false := by
          cases q
          · rfl
          · exact absurd (.inr rfl) k45
        have HR2 : Hid (R = if Lx.nameOk ((c :: r).take n) = true then some ((1, (c :: r).take n, 0), n) else none) := Lib.hid (by rw [← HR.out, HF1.out, if_neg (fun z => k45 (z.imp hk45.1 id))])
        obtain ⟨m, hm2⟩ : ∃ m, Lx.nameOk ((c :: r).take n) = m := ⟨_, rfl⟩
        rw [hm2] at HNM HR2
        clear hm2 k45 hm hk45 hq
        have XBB := XB.out
        have r0 := cell_blk XBB 0
        have r1 := cell_blk XBB 1
        have r2 := cell_blk XBB 2
        have f0 := blk_free XBB 0
        have f1 := blk_free XBB 1
        have f2 := blk_free XBB 2
        cases m
        · obtain rfl : R = none := HR2.out
          go_enter Tryz.func24, Tryz.ntmps24
          go_wp2_with (first | ((with_reducible refine (HM.out _).mono ?_); rintro e w' ⟨rfl, rfl⟩) | ((with_reducible refine (HD.out _).mono ?_); rintro e w4 ⟨rfl, rfl⟩) | ((with_reducible refine (HRL.out _).mono ?_); rintro e w5 ⟨rfl, rfl⟩) | ((with_reducible refine (HNM.out _).mono ?_); rintro e w6 ⟨rfl, rfl⟩))
          have XE := box_set XB.out (.int .u8 0) (.string ⟨#[]⟩) (.int .i64 0)
          have KE := box_end HKA.out HBL.out (.int .u8 0) (.string ⟨#[]⟩) (.int .i64 0) (Below.refl _ _)
          obtain ⟨wf, hwf⟩ : ∃ z, (((w'.setCell ⟨b, 0, none⟩ (.int .u8 0)).setCell ⟨b, 1, none⟩ (.string ⟨#[]⟩)).setCell ⟨b, 2, none⟩ (.int .i64 0)) = z := ⟨_, rfl⟩
          rw [hwf] at XE KE ⊢
          clear r0 r1 r2 f0 f1 f2 hwf
          have r0 := cell_blk XE 0
          have r1 := cell_blk XE 1
          have r2 := cell_blk XE 2
          exact bodyPost_ret (v := .tuple #[.agg #[.int .u8 0, .string ⟨#[]⟩, .int .i64 0], .int .i64 0]) (by simp [results, Tryz.results24, go_sem, r0, r1, r2]) rfl ⟨rfl, KE⟩
        · obtain rfl : R = some ((1, (c :: r).take n, 0), n) := HR2.out
          go_enter Tryz.func24, Tryz.ntmps24
          go_wp2_with (first | ((with_reducible refine (HM.out _).mono ?_); rintro e w' ⟨rfl, rfl⟩) | ((with_reducible refine (HD.out _).mono ?_); rintro e w4 ⟨rfl, rfl⟩) | ((with_reducible refine (HRL.out _).mono ?_); rintro e w5 ⟨rfl, rfl⟩) | ((with_reducible refine (HNM.out _).mono ?_); rintro e w6 ⟨rfl, rfl⟩))
          have XE := box_set XB.out (.int .u8 1) (.string (s.extract 0 n)) (.int .i64 0)
          have KE := box_end HKA.out HBL.out (.int .u8 1) (.string (s.extract 0 n)) (.int .i64 0) (Below.refl _ _)
          obtain ⟨wf, hwf⟩ : ∃ z, (((w'.setCell ⟨b, 0, none⟩ (.int .u8 1)).setCell ⟨b, 1, none⟩ (.string (s.extract 0 n))).setCell ⟨b, 2, none⟩ (.int .i64 0)) = z := ⟨_, rfl⟩
          rw [hwf] at XE KE ⊢
          clear r0 r1 r2 f0 f1 f2 hwf
          have r0 := cell_blk XE 0
          have r1 := cell_blk XE 1
          have r2 := cell_blk XE 2
          exact bodyPost_ret (v := .tuple #[.agg #[.int .u8 1, .string (s.extract 0 n), .int .i64 0], .int .i64 (n : Int)]) (by simp [results, Tryz.results24, go_sem, r0, r1, r2]) rfl ⟨by rw [HN2.out]; rfl, KE⟩
  · have i1 : (0 : Int) ≤ ix := hix.2 hm
    obtain rfl : R = some ((4, [c], 0), 1) := by rw [← HR.out]; unfold Lx.first; dsimp only; rw [hm, if_pos rfl]
    have XBB := XB.out
    have r0 := cell_blk XBB 0
    have r1 := cell_blk XBB 1
    have r2 := cell_blk XBB 2
    have f0 := blk_free XBB 0
    have f1 := blk_free XBB 1
    have f2 := blk_free XBB 2
    clear hm hix hk64 hk45
    go_enter Tryz.func24, Tryz.ntmps24
    go_wp2_with (first | ((with_reducible refine (HM.out _).mono ?_); rintro e w' ⟨rfl, rfl⟩))
    have XE := box_set XB.out (.int .u8 4) (.string (s.extract 0 1)) (.int .i64 0)
    have KE := box_end HKA.out HBL.out (.int .u8 4) (.string (s.extract 0 1)) (.int .i64 0) (Below.refl _ _)
    obtain ⟨wf, hwf⟩ : ∃ z, (((w'.setCell ⟨b, 0, none⟩ (.int .u8 4)).setCell ⟨b, 1, none⟩ (.string (s.extract 0 1))).setCell ⟨b, 2, none⟩ (.int .i64 0)) = z := ⟨_, rfl⟩
    rw [hwf] at XE KE ⊢
    clear r0 r1 r2 f0 f1 f2 hwf
    have r0 := cell_blk XE 0
    have r1 := cell_blk XE 1
    have r2 := cell_blk XE 2
    exact bodyPost_ret (v := .tuple #[.agg #[.int .u8 4, .string (s.extract 0 1), .int .i64 0], .int .i64 1]) (by simp [results, Tryz.results24, go_sem, r0, r1, r2]) rfl ⟨by rw [HS1.out]; rfl, KE⟩

end Go.Proofs.YtimjendkpjojoaaGreatDoor
