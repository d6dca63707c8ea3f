/- Z5 in one. -/
import Derived.Test.YtllhcpkpbipjlaaDoorKac
namespace Go.Proofs.YtllhcpkpbipjlaaDoor
set_option linter.unusedVariables false
set_option linter.unusedSimpArgs false
open Go.ChangeShapes Go.WideShapes Go.ChangeAt Go.RowKit
set_option maxHeartbeats 8000000 in
theorem one_any (s : ByteArray) (w : World) (h0 : 0 < s.size) (hs : s.size ≤ 1000) :
    Calls Tryd.prog 58 #[.string s] w fun e w' => e = .returned (fstV (Lx.first readOf piOf s.data.toList)) ∧ Below w.heap.size w w' := by
  obtain ⟨c, hc⟩ : ∃ c, s[0]'h0 = c := ⟨_, rfl⟩
  have hl : s.data.toList = c :: s.data.toList.drop 1 := by
    have := drop_at s 0 h0
    rw [List.drop_zero, hc] at this
    exact this
  obtain ⟨r, hr⟩ : ∃ r, s.data.toList.drop 1 = r := ⟨_, rfl⟩
  rw [hr] at hl
  have HM := Lib.hid (fun W => rmark c W)
  have HD0 := Lib.hid (fun W => rdigit c W)
  obtain ⟨x, hxx⟩ : ∃ x : Int, (c.toNat : Int) = x := ⟨_, rfl⟩
  have hgc : ((s[0]'h0).toNat : Int) = x := by rw [hc]; exact hxx
  have xb := u8c c
  rw [hxx] at xb HM HD0
  have hk64 : c = 64 ↔ x = 64 := by rw [← hxx]; exact ⟨fun h => by rw [h]; rfl, fun h => UInt8.toNat_inj.1 (by have : (64 : UInt8).toNat = 64 := rfl; omega)⟩
  have hk45 : c = 45 ↔ x = 45 := by rw [← hxx]; exact ⟨fun h => by rw [h]; rfl, fun h => UInt8.toNat_inj.1 (by have : (45 : UInt8).toNat = 45 := rfl; omega)⟩
  obtain ⟨b, hb⟩ : ∃ z, w.heap.size = z := ⟨_, rfl⟩
  obtain ⟨w1, hw1⟩ : ∃ z, w.alloc (.cells #[.int .u8 0, .string ⟨#[]⟩, .int .i64 0] 47) = z := ⟨_, rfl⟩
  have KA : Below w.heap.size w w1 := by rw [← hw1]; exact (Below.refl _ w).alloc (Nat.le_refl _) _
  have XB : Hid (w1.heap[b]? = some (.cells #[.int .u8 0, .string ⟨#[]⟩, .int .i64 0] 47 (0, 0))) := Lib.hid (by rw [← hw1, ← hb, al_new])
  have HKA := Lib.hid KA
  have HBL : Hid (w.heap.size ≤ b) := Lib.hid (by omega)
  obtain ⟨R, hR⟩ : ∃ R, Lx.first readOf piOf s.data.toList = R := ⟨_, rfl⟩
  have HR : Hid (Lx.first readOf piOf (c :: r) = R) := Lib.hid (by rw [← hR, hl])
  have HS1 : Hid (s.extract 0 1 = ⟨[c].toArray⟩) := Lib.hid (by rw [Lib.extract_eq, hl]; rfl)
  have s1 : (s.size : Int) ≤ 1000 := by omega
  have s0 : (1 : Int) ≤ (s.size : Int) := by omega
  have s00 : (0 : Int) < (s.size : Int) := by omega
  have HX := Lib.hid hxx
  have HLS := Lib.hid hl
  have HRS := Lib.hid hr
  have HLEN : Hid (s.size = r.length + 1) := Lib.hid (by rw [Lib.size_eq, hl]; rfl)
  rw [hR]
  clear hR hl hr KA
  cases hm : Lx.mrk c
  · rw [hm] at HM
    by_cases k64 : x = 64
    · have k1 : (x == 64) = true := by simp [k64]
      have HR2 : Hid (R = dayT r) := Lib.hid (by rw [← HR.out]; unfold Lx.first dayT; dsimp only; rw [hm, if_neg (by decide), if_pos (hk64.2 k64)]; cases readOf (List.take (Lx.run Lx.dlt r) r) <;> rfl)
      clear hm hk64 hk45 hc hxx k64
      obtain ⟨K, hK⟩ : ∃ K, Lx.run Lx.dlt r + 1 = K := ⟨_, rfl⟩
      have HK0 : Hid (Lx.run Lx.dlt (s.data.toList.drop 1) + 1 = K) := Lib.hid (by rw [HRS.out]; exact hK)
      have HF : Hid ((s.extract 1 K).data.toList = r.take (Lx.run Lx.dlt r)) := Lib.hid (by rw [Lib.extract_data, HRS.out, ← hK]; congr 1)
      have HFS : Hid ((s.extract 1 K).size ≤ 1000) := Lib.hid (by rw [Lib.size_eq, HF.out, List.length_take]; have := HLEN.out; omega)
      have HP := Lib.hid (fun W => rread_any (s.extract 1 K) HFS.out W)
      rw [HF.out] at HP
      have hKK : Lx.run Lx.dlt r = K - 1 := by omega
      have hK1 : 1 ≤ K := by omega
      have HDT : Hid (R = match readOf (r.take (Lx.run Lx.dlt r)) with
        | some d => some ((3, [], d), K)
        | none => none) := Lib.hid (by rw [HR2.out]; unfold dayT; rw [show 1 + Lx.run Lx.dlt r = K by omega]; cases readOf (r.take (Lx.run Lx.dlt r)) <;> rfl)
      clear HR2
      cases hrd : readOf (r.take (Lx.run Lx.dlt r)) with
      | none =>
        rw [hrd] at HP HDT
        obtain rfl : R = none := HDT.out
        have HPP : Hid (∀ W, Calls Tryd.prog 63 #[.string (s.extract 1 K)] W fun e w' => e = .returned (.tuple #[.int .i64 0, .int .i64 30]) ∧ Below W.heap.size W w') := HP
        clear hrd HDT hK hKK HP
        go_enter Tryd.func58, Tryd.ntmps58
        go_upto_region 6 with (first | ((with_reducible refine (HM.out _).mono ?_); rintro e w' ⟨rfl, hq⟩; subst hq))
        go_loopw [4] (fun nn wr => w1 = wr ∧ ∃ k : Nat, 1 ≤ k ∧ k ≤ s.size ∧ nn = .int .i64 k ∧ Hid (Lx.run Lx.dlt (s.data.toList.drop k) + k = K)) (fun nn _ => s.size - (intOf nn).toNat)
        case atStart => exact ⟨rfl, 1, Nat.le_refl _, by omega, rfl, HK0⟩
        case round =>
          obtain ⟨hq, k, hlo, hk, rfl, HH⟩ := hrel
          subst hq
          have i0 : (0 : Int) ≤ (k : Int) := by omega
          have ilo : (1 : Int) ≤ (k : Int) := by omega
          by_cases klt : k < s.size
          · have i1 : (k : Int) < s.size := by omega
            have HD := Lib.hid (drop_at s k klt)
            have HC := Lib.hid (fun W => rletter s[k] W)
            have b' := u8c s[k]
            obtain ⟨c', hc'⟩ : ∃ c', s[k] = c' := ⟨_, rfl⟩
            rw [hc'] at HD HC b'
            obtain ⟨y, hy⟩ : ∃ y : Int, (c'.toNat : Int) = y := ⟨_, rfl⟩
            obtain ⟨r', hr'⟩ : ∃ r', Lx.ltr c' = r' := ⟨_, rfl⟩
            rw [hy, hr'] at HC
            rw [hy] at b'
            obtain ⟨b0', b1'⟩ := b'
            have hy2 : ((s[k].toNat : Nat) : Int) = y := by rw [hc']; exact hy
            have HY := Lib.hid hy
            have HR' := Lib.hid hr'
            clear hy hr' hc'
            have HGO : Hid (Lx.dlt c' = true → Lx.run Lx.dlt (s.data.toList.drop (k + 1)) + (k + 1) = K) := Lib.hid (fun h => by
              have := HH.out
              rw [HD.out, Lx.run_cons, if_pos h] at this
              omega)
            have HST : Hid (Lx.dlt c' = false → k = K) := Lib.hid (fun h => by
              have := HH.out
              rw [HD.out, Lx.run_cons, h] at this
              simpa using this)
            cases r'
            · by_cases h45 : y = 45
              · have h45' : (y == 45) = true := by simp [h45]
                have HP : Lx.dlt c' = true := decide_eq_true (.inl (by have := HY.out; omega))
                clear h45
                have HH2 := Lib.hid (HGO.out HP)
                clear HGO HST HP
                go_wp2_with (first | ((with_reducible refine (HC.out _).mono ?_); rintro e w' ⟨rfl, hq⟩; subst hq))
                go_roundw
                case rel => exact ⟨trivial, k + 1, by omega, by omega, by go_num, HH2⟩
                case measure => simp [intOf]; omega
              · have h45' : (y == 45) = false := by simp [h45]
                have HP : Lx.dlt c' = false := decide_eq_false (by rintro (h | h); · (have := HY.out; omega)
                                                                   · rw [HR'.out] at h; cases h)
                clear h45
                obtain rfl : k = K := HST.out HP
                clear HGO HST HP HH
                go_wp2_with (first | ((with_reducible refine (HC.out _).mono ?_); rintro e w' ⟨rfl, hq⟩; subst hq) | ((with_reducible refine (HPP.out _).mono ?_); rintro e w2 ⟨rfl, q⟩; have XB2 := blk_keep XB.out q; have r0 := cell_blk XB2 0; have r1 := cell_blk XB2 1; have r2 := cell_blk XB2 2; have f0 := blk_free XB2 0; have f1 := blk_free XB2 1; have f2 := blk_free XB2 2))
                have XE := box_set XB2 (.int .u8 0) (.string ⟨#[]⟩) (.int .i64 0)
                have KE := box_end HKA.out HBL.out (.int .u8 0) (.string ⟨#[]⟩) (.int .i64 0) q
                obtain ⟨wf, hwf⟩ : ∃ z, (((w2.setCell ⟨b, 0, none⟩ (.int .u8 0)).setCell ⟨b, 1, none⟩ (.string ⟨#[]⟩)).setCell ⟨b, 2, none⟩ (.int .i64 0)) = z := ⟨_, rfl⟩
                rw [hwf] at XE KE ⊢
                clear r0 r1 r2 f0 f1 f2 hwf
                have r0 := cell_blk XE 0
                have r1 := cell_blk XE 1
                have r2 := cell_blk XE 2
                exact bodyPost_ret (v := .tuple #[.agg #[.int .u8 0, .string ⟨#[]⟩, .int .i64 0], .int .i64 0]) (by simp [results, Tryd.results58, go_sem, r0, r1, r2]) rfl ⟨rfl, KE⟩
            · have HP : Lx.dlt c' = true := decide_eq_true (.inr HR'.out)
              have HH2 := Lib.hid (HGO.out HP)
              clear HGO HST HP
              go_wp2_with (first | ((with_reducible refine (HC.out _).mono ?_); rintro e w' ⟨rfl, hq⟩; subst hq))
              go_roundw
              case rel => exact ⟨trivial, k + 1, by omega, by omega, by go_num, HH2⟩
              case measure => simp [intOf]; omega
          · have i1 : (s.size : Int) ≤ (k : Int) := by omega
            obtain rfl : k = K := by
              have := HH.out
              rw [List.drop_of_length_le (by rw [← Lib.size_eq]; omega), Lx.run_nil] at this
              omega
            clear HH
            go_wp2_with (first | ((with_reducible refine (HPP.out _).mono ?_); rintro e w2 ⟨rfl, q⟩; have XB2 := blk_keep XB.out q; have r0 := cell_blk XB2 0; have r1 := cell_blk XB2 1; have r2 := cell_blk XB2 2; have f0 := blk_free XB2 0; have f1 := blk_free XB2 1; have f2 := blk_free XB2 2))
            have XE := box_set XB2 (.int .u8 0) (.string ⟨#[]⟩) (.int .i64 0)
            have KE := box_end HKA.out HBL.out (.int .u8 0) (.string ⟨#[]⟩) (.int .i64 0) q
            obtain ⟨wf, hwf⟩ : ∃ z, (((w2.setCell ⟨b, 0, none⟩ (.int .u8 0)).setCell ⟨b, 1, none⟩ (.string ⟨#[]⟩)).setCell ⟨b, 2, none⟩ (.int .i64 0)) = z := ⟨_, rfl⟩
            rw [hwf] at XE KE ⊢
            clear r0 r1 r2 f0 f1 f2 hwf
            have r0 := cell_blk XE 0
            have r1 := cell_blk XE 1
            have r2 := cell_blk XE 2
            exact bodyPost_ret (v := .tuple #[.agg #[.int .u8 0, .string ⟨#[]⟩, .int .i64 0], .int .i64 0]) (by simp [results, Tryd.results58, go_sem, r0, r1, r2]) rfl ⟨rfl, KE⟩
      | some v =>
        rw [hrd] at HP HDT
        obtain rfl : R = some ((3, [], v), K) := HDT.out
        have HPP : Hid (∀ W, Calls Tryd.prog 63 #[.string (s.extract 1 K)] W fun e w' => e = .returned (.tuple #[.int .i64 v, .int .i64 0]) ∧ Below W.heap.size W w') := HP
        clear hrd HDT hK hKK HP
        go_enter Tryd.func58, Tryd.ntmps58
        go_upto_region 6 with (first | ((with_reducible refine (HM.out _).mono ?_); rintro e w' ⟨rfl, hq⟩; subst hq))
        go_loopw [4] (fun nn wr => w1 = wr ∧ ∃ k : Nat, 1 ≤ k ∧ k ≤ s.size ∧ nn = .int .i64 k ∧ Hid (Lx.run Lx.dlt (s.data.toList.drop k) + k = K)) (fun nn _ => s.size - (intOf nn).toNat)
        case atStart => exact ⟨rfl, 1, Nat.le_refl _, by omega, rfl, HK0⟩
        case round =>
          obtain ⟨hq, k, hlo, hk, rfl, HH⟩ := hrel
          subst hq
          have i0 : (0 : Int) ≤ (k : Int) := by omega
          have ilo : (1 : Int) ≤ (k : Int) := by omega
          by_cases klt : k < s.size
          · have i1 : (k : Int) < s.size := by omega
            have HD := Lib.hid (drop_at s k klt)
            have HC := Lib.hid (fun W => rletter s[k] W)
            have b' := u8c s[k]
            obtain ⟨c', hc'⟩ : ∃ c', s[k] = c' := ⟨_, rfl⟩
            rw [hc'] at HD HC b'
            obtain ⟨y, hy⟩ : ∃ y : Int, (c'.toNat : Int) = y := ⟨_, rfl⟩
            obtain ⟨r', hr'⟩ : ∃ r', Lx.ltr c' = r' := ⟨_, rfl⟩
            rw [hy, hr'] at HC
            rw [hy] at b'
            obtain ⟨b0', b1'⟩ := b'
            have hy2 : ((s[k].toNat : Nat) : Int) = y := by rw [hc']; exact hy
            have HY := Lib.hid hy
            have HR' := Lib.hid hr'
            clear hy hr' hc'
            have HGO : Hid (Lx.dlt c' = true → Lx.run Lx.dlt (s.data.toList.drop (k + 1)) + (k + 1) = K) := Lib.hid (fun h => by
              have := HH.out
              rw [HD.out, Lx.run_cons, if_pos h] at this
              omega)
            have HST : Hid (Lx.dlt c' = false → k = K) := Lib.hid (fun h => by
              have := HH.out
              rw [HD.out, Lx.run_cons, h] at this
              simpa using this)
            cases r'
            · by_cases h45 : y = 45
              · have h45' : (y == 45) = true := by simp [h45]
                have HP : Lx.dlt c' = true := decide_eq_true (.inl (by have := HY.out; omega))
                clear h45
                have HH2 := Lib.hid (HGO.out HP)
                clear HGO HST HP
                go_wp2_with (first | ((with_reducible refine (HC.out _).mono ?_); rintro e w' ⟨rfl, hq⟩; subst hq))
                go_roundw
                case rel => exact ⟨trivial, k + 1, by omega, by omega, by go_num, HH2⟩
                case measure => simp [intOf]; omega
              · have h45' : (y == 45) = false := by simp [h45]
                have HP : Lx.dlt c' = false := decide_eq_false (by rintro (h | h); · (have := HY.out; omega)
                                                                   · rw [HR'.out] at h; cases h)
                clear h45
                obtain rfl : k = K := HST.out HP
                clear HGO HST HP HH
                go_wp2_with (first | ((with_reducible refine (HC.out _).mono ?_); rintro e w' ⟨rfl, hq⟩; subst hq) | ((with_reducible refine (HPP.out _).mono ?_); rintro e w2 ⟨rfl, q⟩; have XB2 := blk_keep XB.out q; have r0 := cell_blk XB2 0; have r1 := cell_blk XB2 1; have r2 := cell_blk XB2 2; have f0 := blk_free XB2 0; have f1 := blk_free XB2 1; have f2 := blk_free XB2 2))
                have XE := box_set XB2 (.int .u8 3) (.string ⟨#[]⟩) (.int .i64 v)
                have KE := box_end HKA.out HBL.out (.int .u8 3) (.string ⟨#[]⟩) (.int .i64 v) q
                obtain ⟨wf, hwf⟩ : ∃ z, (((w2.setCell ⟨b, 0, none⟩ (.int .u8 3)).setCell ⟨b, 1, none⟩ (.string ⟨#[]⟩)).setCell ⟨b, 2, none⟩ (.int .i64 v)) = z := ⟨_, rfl⟩
                rw [hwf] at XE KE ⊢
                clear r0 r1 r2 f0 f1 f2 hwf
                have r0 := cell_blk XE 0
                have r1 := cell_blk XE 1
                have r2 := cell_blk XE 2
                exact bodyPost_ret (v := .tuple #[.agg #[.int .u8 3, .string ⟨#[]⟩, .int .i64 v], .int .i64 (k : Int)]) (by simp [results, Tryd.results58, go_sem, r0, r1, r2]) rfl ⟨rfl, KE⟩
            · have HP : Lx.dlt c' = true := decide_eq_true (.inr HR'.out)
              have HH2 := Lib.hid (HGO.out HP)
              clear HGO HST HP
              go_wp2_with (first | ((with_reducible refine (HC.out _).mono ?_); rintro e w' ⟨rfl, hq⟩; subst hq))
              go_roundw
              case rel => exact ⟨trivial, k + 1, by omega, by omega, by go_num, HH2⟩
              case measure => simp [intOf]; omega
          · have i1 : (s.size : Int) ≤ (k : Int) := by omega
            obtain rfl : k = K := by
              have := HH.out
              rw [List.drop_of_length_le (by rw [← Lib.size_eq]; omega), Lx.run_nil] at this
              omega
            clear HH
            go_wp2_with (first | ((with_reducible refine (HPP.out _).mono ?_); rintro e w2 ⟨rfl, q⟩; have XB2 := blk_keep XB.out q; have r0 := cell_blk XB2 0; have r1 := cell_blk XB2 1; have r2 := cell_blk XB2 2; have f0 := blk_free XB2 0; have f1 := blk_free XB2 1; have f2 := blk_free XB2 2))
            have XE := box_set XB2 (.int .u8 3) (.string ⟨#[]⟩) (.int .i64 v)
            have KE := box_end HKA.out HBL.out (.int .u8 3) (.string ⟨#[]⟩) (.int .i64 v) q
            obtain ⟨wf, hwf⟩ : ∃ z, (((w2.setCell ⟨b, 0, none⟩ (.int .u8 3)).setCell ⟨b, 1, none⟩ (.string ⟨#[]⟩)).setCell ⟨b, 2, none⟩ (.int .i64 v)) = z := ⟨_, rfl⟩
            rw [hwf] at XE KE ⊢
            clear r0 r1 r2 f0 f1 f2 hwf
            have r0 := cell_blk XE 0
            have r1 := cell_blk XE 1
            have r2 := cell_blk XE 2
            exact bodyPost_ret (v := .tuple #[.agg #[.int .u8 3, .string ⟨#[]⟩, .int .i64 v], .int .i64 (k : Int)]) (by simp [results, Tryd.results58, go_sem, r0, r1, r2]) rfl ⟨rfl, KE⟩
    · have k1 : (x == 64) = false := by simp [k64]
      have HF1 : Hid (Lx.first readOf piOf (c :: r) = if c = 45 ∨ Lx.dgt c = true then numT (Lx.num piOf (c :: r)) else if Lx.nameOk ((c :: r).take (Lx.run Lx.ltr (c :: r))) = true then some ((1, (c :: r).take (Lx.run Lx.ltr (c :: r)), 0), Lx.run Lx.ltr (c :: r)) else none) := Lib.hid (by
        unfold Lx.first
        dsimp only
        rw [hm, if_neg (by decide), if_neg (fun z => k64 (hk64.1 z))]
        unfold numT
        cases Lx.num piOf (c :: r) <;> rfl)
      by_cases k45 : x = 45
      · have k2 : (x == 45) = true := by simp [k45]
        have hc45 : c = 45 := hk45.2 k45
        have HN : Hid (R = numT ((numR (45 :: r.take (Lx.run Lx.ltr r))).map (fun v => (v, 1 + Lx.run Lx.ltr r)))) := Lib.hid (by rw [← HR.out, HF1.out, if_pos (.inl hc45), hc45, num_neg])
        obtain ⟨K, hK⟩ : ∃ K, Lx.run Lx.ltr r + 1 = K := ⟨_, rfl⟩
        have HK0 : Hid (Lx.run Lx.ltr (s.data.toList.drop 1) + 1 = K) := Lib.hid (by rw [HRS.out]; exact hK)
        have HE : Hid ((s.extract 0 K).data.toList = 45 :: r.take (Lx.run Lx.ltr r)) := Lib.hid (by rw [Lib.extract_data, HLS.out, ← hK, hc45]; rfl)
        have hrl := Lx.run_le Lx.ltr r
        have HES : Hid ((s.extract 0 K).size = K) := Lib.hid (by rw [Lib.size_eq, HE.out, List.length_cons, List.length_take]; omega)
        have HKS : Hid (K ≤ 1000) := Lib.hid (by have := HLEN.out; omega)
        have HNR := Lib.hid (fun W => rnumber10 (s.extract 0 K) W (by rw [HES.out]; omega) (by rw [HES.out]; exact HKS.out) (by
          have e : (s.extract 0 K).data.toList[0]? = some 45 := by rw [HE.out]; rfl
          have e2 : (s.extract 0 K).data.toList[0]? = some ((s.extract 0 K)[0]'(by rw [HES.out]; omega)) := by rw [List.getElem?_eq_getElem (by rw [← Lib.size_eq, HES.out]; omega), get_list]
          rw [e2] at e
          injection e with e
          rw [e]; decide))
        rw [HE.out] at HNR
        obtain ⟨RN, hRN⟩ : ∃ RN, numR (45 :: r.take (Lx.run Lx.ltr r)) = RN := ⟨_, rfl⟩
        rw [hRN, Nat.add_comm 1, hK] at HN
        have HRN := Lib.hid hRN
        have hK1 : 1 ≤ K := by omega
        clear HF1 hm hk64 hk45 hc hxx k64 k45 hc45 hK hrl hRN
        go_enter Tryd.func58, Tryd.ntmps58
        go_upto_region 14 with (first | ((with_reducible refine (HM.out _).mono ?_); rintro e w' ⟨rfl, hq⟩; subst hq))
        go_loopw [4] (fun nn wr => w1 = wr ∧ ∃ k : Nat, 1 ≤ k ∧ k ≤ s.size ∧ nn = .int .i64 k ∧ Hid (Lx.run Lx.ltr (s.data.toList.drop k) + k = K)) (fun nn _ => s.size - (intOf nn).toNat)
        case atStart => exact ⟨rfl, 1, Nat.le_refl _, by omega, rfl, HK0⟩
        case round =>
          obtain ⟨hq, k, hlo, hk, rfl, HH⟩ := hrel
          subst hq
          have i0 : (0 : Int) ≤ (k : Int) := by omega
          have ilo : (1 : Int) ≤ (k : Int) := by omega
          by_cases klt : k < s.size
          · have i1 : (k : Int) < s.size := by omega
            have HD := Lib.hid (drop_at s k klt)
            have HC := Lib.hid (fun W => rletter s[k] W)
            have b' := u8c s[k]
            obtain ⟨c', hc'⟩ : ∃ c', s[k] = c' := ⟨_, rfl⟩
            rw [hc'] at HD HC b'
            obtain ⟨y, hy⟩ : ∃ y : Int, (c'.toNat : Int) = y := ⟨_, rfl⟩
            obtain ⟨r', hr'⟩ : ∃ r', Lx.ltr c' = r' := ⟨_, rfl⟩
            rw [hy, hr'] at HC
            rw [hy] at b'
            obtain ⟨b0', b1'⟩ := b'
            have hy2 : ((s[k].toNat : Nat) : Int) = y := by rw [hc']; exact hy
            have HY := Lib.hid hy
            have HR' := Lib.hid hr'
            clear hy hr' hc'
            have HGO : Hid (Lx.ltr c' = true → Lx.run Lx.ltr (s.data.toList.drop (k + 1)) + (k + 1) = K) := Lib.hid (fun h => by
              have := HH.out
              rw [HD.out, Lx.run_cons, if_pos h] at this
              omega)
            have HST : Hid (Lx.ltr c' = false → k = K) := Lib.hid (fun h => by
              have := HH.out
              rw [HD.out, Lx.run_cons, h] at this
              simpa using this)
            cases r'
            · have HP : Lx.ltr c' = false := HR'.out
              obtain rfl : k = K := HST.out HP
              clear HGO HST HP HH
              have XBB := XB.out
              have r0 := cell_blk XBB 0
              have r1 := cell_blk XBB 1
              have r2 := cell_blk XBB 2
              have f0 := blk_free XBB 0
              have f1 := blk_free XBB 1
              have f2 := blk_free XBB 2
              have HNR2 := Lib.hid (HNR.out w1)
              clear XBB
              go_wp2_with (first | ((with_reducible refine (HC.out _).mono ?_); rintro e w' ⟨rfl, hq⟩; subst hq))
              (with_reducible refine (HNR2.out).mono ?_)
              rintro e w' ⟨⟨v, ok, rfl, hn⟩, hq⟩
              subst hq
              cases ok
              · obtain rfl : R = none := by rw [HN.out, ← HRN.out, hn.no rfl]; rfl
                clear hn
                go_wp2
                have XE := box_set XB.out (.int .u8 0) (.string ⟨#[]⟩) (.int .i64 0)
                have KE := box_end HKA.out HBL.out (.int .u8 0) (.string ⟨#[]⟩) (.int .i64 0) (Below.refl _ _)
                obtain ⟨wf, hwf⟩ : ∃ z, (((w1.setCell ⟨b, 0, none⟩ (.int .u8 0)).setCell ⟨b, 1, none⟩ (.string ⟨#[]⟩)).setCell ⟨b, 2, none⟩ (.int .i64 0)) = z := ⟨_, rfl⟩
                rw [hwf] at XE KE ⊢
                clear r0 r1 r2 f0 f1 f2 hwf
                have r0 := cell_blk XE 0
                have r1 := cell_blk XE 1
                have r2 := cell_blk XE 2
                exact bodyPost_ret (v := .tuple #[.agg #[.int .u8 0, .string ⟨#[]⟩, .int .i64 0], .int .i64 0]) (by simp [results, Tryd.results58, go_sem, r0, r1, r2]) rfl ⟨rfl, KE⟩
              · obtain rfl : R = some ((2, [], v), k) := by rw [HN.out, ← HRN.out, hn.yes rfl]; rfl
                clear hn
                go_wp2
                have XE := box_set XB.out (.int .u8 2) (.string ⟨#[]⟩) (.int .i64 v)
                have KE := box_end HKA.out HBL.out (.int .u8 2) (.string ⟨#[]⟩) (.int .i64 v) (Below.refl _ _)
                obtain ⟨wf, hwf⟩ : ∃ z, (((w1.setCell ⟨b, 0, none⟩ (.int .u8 2)).setCell ⟨b, 1, none⟩ (.string ⟨#[]⟩)).setCell ⟨b, 2, none⟩ (.int .i64 v)) = z := ⟨_, rfl⟩
                rw [hwf] at XE KE ⊢
                clear r0 r1 r2 f0 f1 f2 hwf
                have r0 := cell_blk XE 0
                have r1 := cell_blk XE 1
                have r2 := cell_blk XE 2
                exact bodyPost_ret (v := .tuple #[.agg #[.int .u8 2, .string ⟨#[]⟩, .int .i64 v], .int .i64 (k : Int)]) (by simp [results, Tryd.results58, go_sem, r0, r1, r2]) rfl ⟨rfl, KE⟩
            · have HP : Lx.ltr c' = true := HR'.out
              have HH2 := Lib.hid (HGO.out HP)
              clear HGO HST HP
              go_wp2_with (first | ((with_reducible refine (HC.out _).mono ?_); rintro e w' ⟨rfl, hq⟩; subst hq))
              go_roundw
              case rel => exact ⟨trivial, k + 1, by omega, by omega, by go_num, HH2⟩
              case measure => simp [intOf]; omega
          · have i1 : (s.size : Int) ≤ (k : Int) := by omega
            obtain rfl : k = K := by
              have := HH.out
              rw [List.drop_of_length_le (by rw [← Lib.size_eq]; omega), Lx.run_nil] at this
              omega
            clear HH
            have XBB := XB.out
            have r0 := cell_blk XBB 0
            have r1 := cell_blk XBB 1
            have r2 := cell_blk XBB 2
            have f0 := blk_free XBB 0
            have f1 := blk_free XBB 1
            have f2 := blk_free XBB 2
            have HNR2 := Lib.hid (HNR.out w1)
            clear XBB
            go_wp2_with (first | fail)
            (with_reducible refine (HNR2.out).mono ?_)
            rintro e w' ⟨⟨v, ok, rfl, hn⟩, hq⟩
            subst hq
            cases ok
            · obtain rfl : R = none := by rw [HN.out, ← HRN.out, hn.no rfl]; rfl
              clear hn
              go_wp2
              have XE := box_set XB.out (.int .u8 0) (.string ⟨#[]⟩) (.int .i64 0)
              have KE := box_end HKA.out HBL.out (.int .u8 0) (.string ⟨#[]⟩) (.int .i64 0) (Below.refl _ _)
              obtain ⟨wf, hwf⟩ : ∃ z, (((w1.setCell ⟨b, 0, none⟩ (.int .u8 0)).setCell ⟨b, 1, none⟩ (.string ⟨#[]⟩)).setCell ⟨b, 2, none⟩ (.int .i64 0)) = z := ⟨_, rfl⟩
              rw [hwf] at XE KE ⊢
              clear r0 r1 r2 f0 f1 f2 hwf
              have r0 := cell_blk XE 0
              have r1 := cell_blk XE 1
              have r2 := cell_blk XE 2
              exact bodyPost_ret (v := .tuple #[.agg #[.int .u8 0, .string ⟨#[]⟩, .int .i64 0], .int .i64 0]) (by simp [results, Tryd.results58, go_sem, r0, r1, r2]) rfl ⟨rfl, KE⟩
            · obtain rfl : R = some ((2, [], v), k) := by rw [HN.out, ← HRN.out, hn.yes rfl]; rfl
              clear hn
              go_wp2
              have XE := box_set XB.out (.int .u8 2) (.string ⟨#[]⟩) (.int .i64 v)
              have KE := box_end HKA.out HBL.out (.int .u8 2) (.string ⟨#[]⟩) (.int .i64 v) (Below.refl _ _)
              obtain ⟨wf, hwf⟩ : ∃ z, (((w1.setCell ⟨b, 0, none⟩ (.int .u8 2)).setCell ⟨b, 1, none⟩ (.string ⟨#[]⟩)).setCell ⟨b, 2, none⟩ (.int .i64 v)) = z := ⟨_, rfl⟩
              rw [hwf] at XE KE ⊢
              clear r0 r1 r2 f0 f1 f2 hwf
              have r0 := cell_blk XE 0
              have r1 := cell_blk XE 1
              have r2 := cell_blk XE 2
              exact bodyPost_ret (v := .tuple #[.agg #[.int .u8 2, .string ⟨#[]⟩, .int .i64 v], .int .i64 (k : Int)]) (by simp [results, Tryd.results58, go_sem, r0, r1, r2]) rfl ⟨rfl, KE⟩
      · have k2 : (x == 45) = false := by simp [k45]
        obtain ⟨K, hK⟩ : ∃ K, Lx.run Lx.ltr (c :: r) = K := ⟨_, rfl⟩
        have HK0 : Hid (Lx.run Lx.ltr (s.data.toList.drop 0) + 0 = K) := Lib.hid (by rw [List.drop_zero, HLS.out]; exact hK)
        have hrl := Lx.run_le Lx.ltr (c :: r)
        have HE : Hid ((s.extract 0 K).data.toList = (c :: r).take K) := Lib.hid (by rw [Lib.extract_data, HLS.out]; rfl)
        have HKS : Hid (K ≤ 1000) := Lib.hid (by have := HLEN.out; rw [hK, List.length_cons] at hrl; omega)
        have HES : Hid ((s.extract 0 K).size = K) := Lib.hid (by rw [Lib.size_eq, HE.out, List.length_take]; rw [hK] at hrl; omega)
        rw [hK] at HF1
        obtain ⟨q, hq⟩ : ∃ q, Lx.dgt c = q := ⟨_, rfl⟩
        rw [hq] at HD0 HF1
        cases q
        · have HN : Hid (R = if Lx.nameOk ((c :: r).take K) = true then some ((1, (c :: r).take K, 0), K) else none) := Lib.hid (by rw [← HR.out, HF1.out, if_neg (by rintro (h | h) <;> first | exact k45 (hk45.1 h) | cases h)])
          have HNM := Lib.hid (fun W => rname_any (s.extract 0 K) W (by rw [HES.out]; have := HKS.out; unfold maxLen; omega))
          rw [HE.out] at HNM
          have HN2 : Hid (s.extract 0 K = ⟨((c :: r).take K).toArray⟩) := Lib.hid (by rw [Lib.extract_eq, HLS.out]; simp)
          obtain ⟨m, hm2⟩ : ∃ m, Lx.nameOk ((c :: r).take K) = m := ⟨_, rfl⟩
          rw [hm2] at HNM HN
          clear HF1 hm hk64 hk45 hc hxx k64 k45 hK hrl hq hm2
          go_enter Tryd.func58, Tryd.ntmps58
          go_upto_region 14 with (first | ((with_reducible refine (HM.out _).mono ?_); rintro e w' ⟨rfl, hq⟩; subst hq))
          go_loopw [4] (fun nn wr => w1 = wr ∧ ∃ k : Nat, 0 ≤ k ∧ k ≤ s.size ∧ nn = .int .i64 k ∧ Hid (Lx.run Lx.ltr (s.data.toList.drop k) + k = K)) (fun nn _ => s.size - (intOf nn).toNat)
          case atStart => exact ⟨rfl, 0, Nat.le_refl _, by omega, rfl, HK0⟩
          case round =>
            obtain ⟨hq, k, hlo, hk, rfl, HH⟩ := hrel
            subst hq
            have i0 : (0 : Int) ≤ (k : Int) := by omega
            have ilo : (0 : Int) ≤ (k : Int) := by omega
            by_cases klt : k < s.size
            · have i1 : (k : Int) < s.size := by omega
              have HD := Lib.hid (drop_at s k klt)
              have HC := Lib.hid (fun W => rletter s[k] W)
              have b' := u8c s[k]
              obtain ⟨c', hc'⟩ : ∃ c', s[k] = c' := ⟨_, rfl⟩
              rw [hc'] at HD HC b'
              obtain ⟨y, hy⟩ : ∃ y : Int, (c'.toNat : Int) = y := ⟨_, rfl⟩
              obtain ⟨r', hr'⟩ : ∃ r', Lx.ltr c' = r' := ⟨_, rfl⟩
              rw [hy, hr'] at HC
              rw [hy] at b'
              obtain ⟨b0', b1'⟩ := b'
              have hy2 : ((s[k].toNat : Nat) : Int) = y := by rw [hc']; exact hy
              have HY := Lib.hid hy
              have HR' := Lib.hid hr'
              clear hy hr' hc'
              have HGO : Hid (Lx.ltr c' = true → Lx.run Lx.ltr (s.data.toList.drop (k + 1)) + (k + 1) = K) := Lib.hid (fun h => by
                have := HH.out
                rw [HD.out, Lx.run_cons, if_pos h] at this
                omega)
              have HST : Hid (Lx.ltr c' = false → k = K) := Lib.hid (fun h => by
                have := HH.out
                rw [HD.out, Lx.run_cons, h] at this
                simpa using this)
              cases r'
              · have HP : Lx.ltr c' = false := HR'.out
                obtain rfl : k = K := HST.out HP
                clear HGO HST HP HH
                have XBB := XB.out
                have r0 := cell_blk XBB 0
                have r1 := cell_blk XBB 1
                have r2 := cell_blk XBB 2
                have f0 := blk_free XBB 0
                have f1 := blk_free XBB 1
                have f2 := blk_free XBB 2
                clear XBB
                go_wp2_with (first | ((with_reducible refine (HC.out _).mono ?_); rintro e w' ⟨rfl, hq⟩; subst hq) | ((with_reducible refine (HD0.out _).mono ?_); rintro e w' ⟨rfl, hq⟩; subst hq))
                (with_reducible refine (HNM.out w1).mono ?_)
                rintro e w' ⟨rfl, hq⟩
                subst hq
                cases m
                · obtain rfl : R = none := HN.out
                  go_wp2
                  have XE := box_set XB.out (.int .u8 0) (.string ⟨#[]⟩) (.int .i64 0)
                  have KE := box_end HKA.out HBL.out (.int .u8 0) (.string ⟨#[]⟩) (.int .i64 0) (Below.refl _ _)
                  obtain ⟨wf, hwf⟩ : ∃ z, (((w1.setCell ⟨b, 0, none⟩ (.int .u8 0)).setCell ⟨b, 1, none⟩ (.string ⟨#[]⟩)).setCell ⟨b, 2, none⟩ (.int .i64 0)) = z := ⟨_, rfl⟩
                  rw [hwf] at XE KE ⊢
                  clear r0 r1 r2 f0 f1 f2 hwf
                  have r0 := cell_blk XE 0
                  have r1 := cell_blk XE 1
                  have r2 := cell_blk XE 2
                  exact bodyPost_ret (v := .tuple #[.agg #[.int .u8 0, .string ⟨#[]⟩, .int .i64 0], .int .i64 0]) (by simp [results, Tryd.results58, go_sem, r0, r1, r2]) rfl ⟨rfl, KE⟩
                · obtain rfl : R = some ((1, (c :: r).take k, 0), k) := HN.out
                  go_wp2
                  have XE := box_set XB.out (.int .u8 1) (.string (s.extract 0 k)) (.int .i64 0)
                  have KE := box_end HKA.out HBL.out (.int .u8 1) (.string (s.extract 0 k)) (.int .i64 0) (Below.refl _ _)
                  obtain ⟨wf, hwf⟩ : ∃ z, (((w1.setCell ⟨b, 0, none⟩ (.int .u8 1)).setCell ⟨b, 1, none⟩ (.string (s.extract 0 k))).setCell ⟨b, 2, none⟩ (.int .i64 0)) = z := ⟨_, rfl⟩
                  rw [hwf] at XE KE ⊢
                  clear r0 r1 r2 f0 f1 f2 hwf
                  have r0 := cell_blk XE 0
                  have r1 := cell_blk XE 1
                  have r2 := cell_blk XE 2
                  exact bodyPost_ret (v := .tuple #[.agg #[.int .u8 1, .string (s.extract 0 k), .int .i64 0], .int .i64 (k : Int)]) (by simp [results, Tryd.results58, go_sem, r0, r1, r2]) rfl ⟨by rw [HN2.out]; rfl, KE⟩
              · have HP : Lx.ltr c' = true := HR'.out
                have HH2 := Lib.hid (HGO.out HP)
                clear HGO HST HP
                go_wp2_with (first | ((with_reducible refine (HC.out _).mono ?_); rintro e w' ⟨rfl, hq⟩; subst hq))
                go_roundw
                case rel => exact ⟨trivial, k + 1, by omega, by omega, by go_num, HH2⟩
                case measure => simp [intOf]; omega
            · have i1 : (s.size : Int) ≤ (k : Int) := by omega
              obtain rfl : k = K := by
                have := HH.out
                rw [List.drop_of_length_le (by rw [← Lib.size_eq]; omega), Lx.run_nil] at this
                omega
              clear HH
              have XBB := XB.out
              have r0 := cell_blk XBB 0
              have r1 := cell_blk XBB 1
              have r2 := cell_blk XBB 2
              have f0 := blk_free XBB 0
              have f1 := blk_free XBB 1
              have f2 := blk_free XBB 2
              clear XBB
              go_wp2_with (first | ((with_reducible refine (HD0.out _).mono ?_); rintro e w' ⟨rfl, hq⟩; subst hq))
              (with_reducible refine (HNM.out w1).mono ?_)
              rintro e w' ⟨rfl, hq⟩
              subst hq
              cases m
              · obtain rfl : R = none := HN.out
                go_wp2
                have XE := box_set XB.out (.int .u8 0) (.string ⟨#[]⟩) (.int .i64 0)
                have KE := box_end HKA.out HBL.out (.int .u8 0) (.string ⟨#[]⟩) (.int .i64 0) (Below.refl _ _)
                obtain ⟨wf, hwf⟩ : ∃ z, (((w1.setCell ⟨b, 0, none⟩ (.int .u8 0)).setCell ⟨b, 1, none⟩ (.string ⟨#[]⟩)).setCell ⟨b, 2, none⟩ (.int .i64 0)) = z := ⟨_, rfl⟩
                rw [hwf] at XE KE ⊢
                clear r0 r1 r2 f0 f1 f2 hwf
                have r0 := cell_blk XE 0
                have r1 := cell_blk XE 1
                have r2 := cell_blk XE 2
                exact bodyPost_ret (v := .tuple #[.agg #[.int .u8 0, .string ⟨#[]⟩, .int .i64 0], .int .i64 0]) (by simp [results, Tryd.results58, go_sem, r0, r1, r2]) rfl ⟨rfl, KE⟩
              · obtain rfl : R = some ((1, (c :: r).take k, 0), k) := HN.out
                go_wp2
                have XE := box_set XB.out (.int .u8 1) (.string (s.extract 0 k)) (.int .i64 0)
                have KE := box_end HKA.out HBL.out (.int .u8 1) (.string (s.extract 0 k)) (.int .i64 0) (Below.refl _ _)
                obtain ⟨wf, hwf⟩ : ∃ z, (((w1.setCell ⟨b, 0, none⟩ (.int .u8 1)).setCell ⟨b, 1, none⟩ (.string (s.extract 0 k))).setCell ⟨b, 2, none⟩ (.int .i64 0)) = z := ⟨_, rfl⟩
                rw [hwf] at XE KE ⊢
                clear r0 r1 r2 f0 f1 f2 hwf
                have r0 := cell_blk XE 0
                have r1 := cell_blk XE 1
                have r2 := cell_blk XE 2
                exact bodyPost_ret (v := .tuple #[.agg #[.int .u8 1, .string (s.extract 0 k), .int .i64 0], .int .i64 (k : Int)]) (by simp [results, Tryd.results58, go_sem, r0, r1, r2]) rfl ⟨by rw [HN2.out]; rfl, KE⟩
        · have hd48 := of_decide_eq_true hq
          have HN : Hid (R = numT ((numR ((c :: r).take K)).map (fun v => (v, K)))) := Lib.hid (by rw [← HR.out, HF1.out, if_pos (.inr rfl), num_pos' c r hq, hK])
          have hKp : 0 < K := by rw [← hK, Lx.run_cons, if_pos (dgt_ltr hq)]; omega
          have HNR := Lib.hid (fun W => rnumber10 (s.extract 0 K) W (by rw [HES.out]; omega) (by rw [HES.out]; exact HKS.out) (by
            have e : (s.extract 0 K).data.toList[0]? = some c := by rw [HE.out, take_zero hKp]; rfl
            have e2 : (s.extract 0 K).data.toList[0]? = some ((s.extract 0 K)[0]'(by rw [HES.out]; omega)) := by rw [List.getElem?_eq_getElem (by rw [← Lib.size_eq, HES.out]; omega), get_list]
            rw [e2] at e
            injection e with e
            rw [e]; omega))
          rw [HE.out] at HNR
          obtain ⟨RN, hRN⟩ : ∃ RN, numR ((c :: r).take K) = RN := ⟨_, rfl⟩
          rw [hRN] at HN
          have HRN := Lib.hid hRN
          clear HF1 hm hk64 hk45 hc hxx k64 k45 hK hrl hRN hq hd48
          go_enter Tryd.func58, Tryd.ntmps58
          go_upto_region 14 with (first | ((with_reducible refine (HM.out _).mono ?_); rintro e w' ⟨rfl, hq⟩; subst hq))
          go_loopw [4] (fun nn wr => w1 = wr ∧ ∃ k : Nat, 0 ≤ k ∧ k ≤ s.size ∧ nn = .int .i64 k ∧ Hid (Lx.run Lx.ltr (s.data.toList.drop k) + k = K)) (fun nn _ => s.size - (intOf nn).toNat)
          case atStart => exact ⟨rfl, 0, Nat.le_refl _, by omega, rfl, HK0⟩
          case round =>
            obtain ⟨hq, k, hlo, hk, rfl, HH⟩ := hrel
            subst hq
            have i0 : (0 : Int) ≤ (k : Int) := by omega
            have ilo : (0 : Int) ≤ (k : Int) := by omega
            by_cases klt : k < s.size
            · have i1 : (k : Int) < s.size := by omega
              have HD := Lib.hid (drop_at s k klt)
              have HC := Lib.hid (fun W => rletter s[k] W)
              have b' := u8c s[k]
              obtain ⟨c', hc'⟩ : ∃ c', s[k] = c' := ⟨_, rfl⟩
              rw [hc'] at HD HC b'
              obtain ⟨y, hy⟩ : ∃ y : Int, (c'.toNat : Int) = y := ⟨_, rfl⟩
              obtain ⟨r', hr'⟩ : ∃ r', Lx.ltr c' = r' := ⟨_, rfl⟩
              rw [hy, hr'] at HC
              rw [hy] at b'
              obtain ⟨b0', b1'⟩ := b'
              have hy2 : ((s[k].toNat : Nat) : Int) = y := by rw [hc']; exact hy
              have HY := Lib.hid hy
              have HR' := Lib.hid hr'
              clear hy hr' hc'
              have HGO : Hid (Lx.ltr c' = true → Lx.run Lx.ltr (s.data.toList.drop (k + 1)) + (k + 1) = K) := Lib.hid (fun h => by
                have := HH.out
                rw [HD.out, Lx.run_cons, if_pos h] at this
                omega)
              have HST : Hid (Lx.ltr c' = false → k = K) := Lib.hid (fun h => by
                have := HH.out
                rw [HD.out, Lx.run_cons, h] at this
                simpa using this)
              cases r'
              · have HP : Lx.ltr c' = false := HR'.out
                obtain rfl : k = K := HST.out HP
                clear HGO HST HP HH
                have XBB := XB.out
                have r0 := cell_blk XBB 0
                have r1 := cell_blk XBB 1
                have r2 := cell_blk XBB 2
                have f0 := blk_free XBB 0
                have f1 := blk_free XBB 1
                have f2 := blk_free XBB 2
                have HNR2 := Lib.hid (HNR.out w1)
                clear XBB
                go_wp2_with (first | ((with_reducible refine (HC.out _).mono ?_); rintro e w' ⟨rfl, hq⟩; subst hq) | ((with_reducible refine (HD0.out _).mono ?_); rintro e w' ⟨rfl, hq⟩; subst hq))
                (with_reducible refine (HNR2.out).mono ?_)
                rintro e w' ⟨⟨v, ok, rfl, hn⟩, hq⟩
                subst hq
                cases ok
                · obtain rfl : R = none := by rw [HN.out, ← HRN.out, hn.no rfl]; rfl
                  clear hn
                  go_wp2
                  have XE := box_set XB.out (.int .u8 0) (.string ⟨#[]⟩) (.int .i64 0)
                  have KE := box_end HKA.out HBL.out (.int .u8 0) (.string ⟨#[]⟩) (.int .i64 0) (Below.refl _ _)
                  obtain ⟨wf, hwf⟩ : ∃ z, (((w1.setCell ⟨b, 0, none⟩ (.int .u8 0)).setCell ⟨b, 1, none⟩ (.string ⟨#[]⟩)).setCell ⟨b, 2, none⟩ (.int .i64 0)) = z := ⟨_, rfl⟩
                  rw [hwf] at XE KE ⊢
                  clear r0 r1 r2 f0 f1 f2 hwf
                  have r0 := cell_blk XE 0
                  have r1 := cell_blk XE 1
                  have r2 := cell_blk XE 2
                  exact bodyPost_ret (v := .tuple #[.agg #[.int .u8 0, .string ⟨#[]⟩, .int .i64 0], .int .i64 0]) (by simp [results, Tryd.results58, go_sem, r0, r1, r2]) rfl ⟨rfl, KE⟩
                · obtain rfl : R = some ((2, [], v), k) := by rw [HN.out, ← HRN.out, hn.yes rfl]; rfl
                  clear hn
                  go_wp2
                  have XE := box_set XB.out (.int .u8 2) (.string ⟨#[]⟩) (.int .i64 v)
                  have KE := box_end HKA.out HBL.out (.int .u8 2) (.string ⟨#[]⟩) (.int .i64 v) (Below.refl _ _)
                  obtain ⟨wf, hwf⟩ : ∃ z, (((w1.setCell ⟨b, 0, none⟩ (.int .u8 2)).setCell ⟨b, 1, none⟩ (.string ⟨#[]⟩)).setCell ⟨b, 2, none⟩ (.int .i64 v)) = z := ⟨_, rfl⟩
                  rw [hwf] at XE KE ⊢
                  clear r0 r1 r2 f0 f1 f2 hwf
                  have r0 := cell_blk XE 0
                  have r1 := cell_blk XE 1
                  have r2 := cell_blk XE 2
                  exact bodyPost_ret (v := .tuple #[.agg #[.int .u8 2, .string ⟨#[]⟩, .int .i64 v], .int .i64 (k : Int)]) (by simp [results, Tryd.results58, go_sem, r0, r1, r2]) rfl ⟨rfl, KE⟩
              · have HP : Lx.ltr c' = true := HR'.out
                have HH2 := Lib.hid (HGO.out HP)
                clear HGO HST HP
                go_wp2_with (first | ((with_reducible refine (HC.out _).mono ?_); rintro e w' ⟨rfl, hq⟩; subst hq))
                go_roundw
                case rel => exact ⟨trivial, k + 1, by omega, by omega, by go_num, HH2⟩
                case measure => simp [intOf]; omega
            · have i1 : (s.size : Int) ≤ (k : Int) := by omega
              obtain rfl : k = K := by
                have := HH.out
                rw [List.drop_of_length_le (by rw [← Lib.size_eq]; omega), Lx.run_nil] at this
                omega
              clear HH
              have XBB := XB.out
              have r0 := cell_blk XBB 0
              have r1 := cell_blk XBB 1
              have r2 := cell_blk XBB 2
              have f0 := blk_free XBB 0
              have f1 := blk_free XBB 1
              have f2 := blk_free XBB 2
              have HNR2 := Lib.hid (HNR.out w1)
              clear XBB
              go_wp2_with (first | ((with_reducible refine (HD0.out _).mono ?_); rintro e w' ⟨rfl, hq⟩; subst hq))
              (with_reducible refine (HNR2.out).mono ?_)
              rintro e w' ⟨⟨v, ok, rfl, hn⟩, hq⟩
              subst hq
              cases ok
              · obtain rfl : R = none := by rw [HN.out, ← HRN.out, hn.no rfl]; rfl
                clear hn
                go_wp2
                have XE := box_set XB.out (.int .u8 0) (.string ⟨#[]⟩) (.int .i64 0)
                have KE := box_end HKA.out HBL.out (.int .u8 0) (.string ⟨#[]⟩) (.int .i64 0) (Below.refl _ _)
                obtain ⟨wf, hwf⟩ : ∃ z, (((w1.setCell ⟨b, 0, none⟩ (.int .u8 0)).setCell ⟨b, 1, none⟩ (.string ⟨#[]⟩)).setCell ⟨b, 2, none⟩ (.int .i64 0)) = z := ⟨_, rfl⟩
                rw [hwf] at XE KE ⊢
                clear r0 r1 r2 f0 f1 f2 hwf
                have r0 := cell_blk XE 0
                have r1 := cell_blk XE 1
                have r2 := cell_blk XE 2
                exact bodyPost_ret (v := .tuple #[.agg #[.int .u8 0, .string ⟨#[]⟩, .int .i64 0], .int .i64 0]) (by simp [results, Tryd.results58, go_sem, r0, r1, r2]) rfl ⟨rfl, KE⟩
              · obtain rfl : R = some ((2, [], v), k) := by rw [HN.out, ← HRN.out, hn.yes rfl]; rfl
                clear hn
                go_wp2
                have XE := box_set XB.out (.int .u8 2) (.string ⟨#[]⟩) (.int .i64 v)
                have KE := box_end HKA.out HBL.out (.int .u8 2) (.string ⟨#[]⟩) (.int .i64 v) (Below.refl _ _)
                obtain ⟨wf, hwf⟩ : ∃ z, (((w1.setCell ⟨b, 0, none⟩ (.int .u8 2)).setCell ⟨b, 1, none⟩ (.string ⟨#[]⟩)).setCell ⟨b, 2, none⟩ (.int .i64 v)) = z := ⟨_, rfl⟩
                rw [hwf] at XE KE ⊢
                clear r0 r1 r2 f0 f1 f2 hwf
                have r0 := cell_blk XE 0
                have r1 := cell_blk XE 1
                have r2 := cell_blk XE 2
                exact bodyPost_ret (v := .tuple #[.agg #[.int .u8 2, .string ⟨#[]⟩, .int .i64 v], .int .i64 (k : Int)]) (by simp [results, Tryd.results58, go_sem, r0, r1, r2]) rfl ⟨rfl, KE⟩
  · rw [hm] at HM
    obtain rfl : R = some ((4, [c], 0), 1) := by rw [← HR.out]; unfold Lx.first; dsimp only; rw [hm, if_pos rfl]
    have XBB := XB.out
    have r0 := cell_blk XBB 0
    have r1 := cell_blk XBB 1
    have r2 := cell_blk XBB 2
    have f0 := blk_free XBB 0
    have f1 := blk_free XBB 1
    have f2 := blk_free XBB 2
    clear hm hk64 hk45 XBB
    go_enter Tryd.func58, Tryd.ntmps58
    go_wp2_with (first | ((with_reducible refine (HM.out _).mono ?_); rintro e w' ⟨rfl, hq⟩; subst hq))
    have XE := box_set XB.out (.int .u8 4) (.string (s.extract 0 1)) (.int .i64 0)
    have KE := box_end HKA.out HBL.out (.int .u8 4) (.string (s.extract 0 1)) (.int .i64 0) (Below.refl _ _)
    obtain ⟨wf, hwf⟩ : ∃ z, (((w1.setCell ⟨b, 0, none⟩ (.int .u8 4)).setCell ⟨b, 1, none⟩ (.string (s.extract 0 1))).setCell ⟨b, 2, none⟩ (.int .i64 0)) = z := ⟨_, rfl⟩
    rw [hwf] at XE KE ⊢
    clear r0 r1 r2 f0 f1 f2 hwf
    have r0 := cell_blk XE 0
    have r1 := cell_blk XE 1
    have r2 := cell_blk XE 2
    exact bodyPost_ret (v := .tuple #[.agg #[.int .u8 4, .string (s.extract 0 1), .int .i64 0], .int .i64 1]) (by simp [results, Tryd.results58, go_sem, r0, r1, r2]) rfl ⟨by rw [HS1.out]; rfl, KE⟩
end Go.Proofs.YtllhcpkpbipjlaaDoor
