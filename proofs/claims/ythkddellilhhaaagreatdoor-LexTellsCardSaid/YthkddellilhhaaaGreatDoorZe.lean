/- Z6, Z10 in one. -/
import Derived.Test.YthkddellilhhaaaGreatDoorZ5
import Derived.Test.YthkddellilhhaaaGreatDoorZd
import Derived.Test.YthkddellilhhaaaGreatDoorLc
namespace Go.Proofs.YthkddellilhhaaaGreatDoor
set_option linter.unusedVariables false
set_option linter.unusedSimpArgs false
open Go.ChangeShapes Go.WideShapes Go.ChangeAt Go.RowKit
set_option maxHeartbeats 2000000 in
theorem rwords_any (s : ByteArray) (w : World) (hs : s.size ≤ 1000) :
    Calls Tryz.prog 6 #[.string s] w fun e w' => ∃ v', e = .returned (.tuple #[v', .int .i64 (Lx.words readOf piOf s.data.toList 0 []).2]) ∧ Hid (w'.ownsRow w.heap.size 27 3 v' (Lx.words readOf piOf s.data.toList 0 []).1.length (tkCells (Lx.words readOf piOf s.data.toList 0 []).1)) ∧ Hid (Below w.heap.size w w') := by
  obtain ⟨R, hR⟩ : ∃ R, Lx.words readOf piOf s.data.toList 0 [] = R := ⟨_, rfl⟩
  rw [hR]
  have HR := Lib.hid hR
  have s1 : (s.size : Int) ≤ 1000 := by omega
  clear hR
  go_enter Tryz.func6, Tryz.ntmps6
  go_upto_region 3 with fail
  go_loopw [4, 5, 6, 7] (fun s4 s5 s6 s7 wr => ∃ (k : Nat) (acc : List Lx.Tk), k ≤ s.size ∧ acc.length ≤ k ∧ s5 = .int .i64 k ∧ Hid (Below w.heap.size w wr) ∧ Hid (wr.ownsRow w.heap.size 27 3 s4 acc.length (tkCells acc)) ∧ Hid (Lx.words readOf piOf (s.data.toList.drop k) k acc = R)) (fun s4 s5 s6 s7 _ => s.size - (intOf s5).toNat)
  case atStart => exact ⟨0, [], Nat.zero_le _, Nat.le_refl _, rfl, Lib.hid (Below.refl _ _), Lib.hid (World.ownsRow_nil _ _ _ _), Lib.hid (by rw [List.drop_zero]; exact HR.out)⟩
  case round =>
    obtain ⟨k, acc, hk, hac, rfl, HB, HO, HW⟩ := hrel
    have i0 : (0 : Int) ≤ (k : Int) := by omega
    by_cases klt : k < s.size
    · have i1 : (k : Int) < s.size := by omega
      have hdr := drop_at s k klt
      obtain ⟨c, hc⟩ : ∃ c, s[k] = c := ⟨_, rfl⟩
      rw [hc] at hdr
      obtain ⟨x, hx⟩ : ∃ x : Int, (c.toNat : Int) = x := ⟨_, rfl⟩
      have hgc : ((s[k]).toNat : Int) = x := by rw [hc]; exact hx
      by_cases bl : x = 32 ∨ x = 9
      · have HW2 : Hid (Lx.words readOf piOf (s.data.toList.drop (k + 1)) (k + 1) acc = R) := Lib.hid (by
          rw [← HW.out, hdr, Lx.words_blank readOf piOf (by unfold Lx.blk; rw [decide_eq_true_iff]; omega)])
        clear hdr hc hx
        rcases bl with rfl | rfl
        · go_wp2
          go_roundw
          case rel => exact ⟨k + 1, acc, by omega, by omega, by go_num, HB, HO, HW2⟩
          case measure => simp [intOf]; omega
        · go_wp2
          go_roundw
          case rel => exact ⟨k + 1, acc, by omega, by omega, by go_num, HB, HO, HW2⟩
          case measure => simp [intOf]; omega
      · have b1 : (x == 32) = false := by simp; exact fun z => bl (.inl z)
        have b2 : (x == 9) = false := by simp; exact fun z => bl (.inr z)
        have hbk : Lx.blk c = false := by unfold Lx.blk; rw [decide_eq_false_iff_not]; omega
        have HE : Hid ((s.extract k s.size).data.toList = s.data.toList.drop k) := Lib.hid (by rw [Lib.extract_data, List.take_of_length_le]; rw [List.length_drop, ← Lib.size_eq]; omega)
        have hes : (s.extract k s.size).size = s.size - k := by rw [Lib.size_eq, HE.out, List.length_drop, ← Lib.size_eq]
        have HF := Lib.hid (one_any (s.extract k s.size) wr (by omega) (by omega))
        rw [HE.out] at HF
        have HHD := Lib.hid hdr
        have HBK := Lib.hid hbk
        obtain ⟨F, hF⟩ : ∃ F, Lx.first readOf piOf (s.data.toList.drop k) = F := ⟨_, rfl⟩
        rw [hF] at HF
        have HFF := Lib.hid hF
        clear hF hdr hc hx bl hbk hes
        cases F with
        | none =>
          obtain rfl : R = ([], (k : Int)) := by
            rw [← HW.out, HHD.out]
            exact Lx.words_none readOf piOf HBK.out (by rw [← HHD.out]; exact HFF.out) k acc
          have HF : Hid (Calls Tryz.prog 16 #[.string (s.extract k s.size)] wr fun e w' => e = .returned (.tuple #[.agg #[.int .u8 0, .string ⟨#[]⟩, .int .i64 0], .int .i64 0]) ∧ Below wr.heap.size wr w') := HF
          clear HFF HW HO HR
          go_wp2_with fail
          (with_reducible refine HF.out.mono ?_)
          rintro e w2 ⟨rfl, q⟩
          have HB2 := Lib.hid ((HB.out.trans (q.mono HB.out.size)).alloc (Nat.le_trans HB.out.size q.size) (.cells #[.int .u8 0, .string ⟨#[]⟩, .int .i64 0] 27))
          clear q HF
          go_wp2
          go_returns
          exact ⟨_, rfl, Lib.hid (World.ownsRow_nil _ _ _ _), HB2⟩
        | some y =>
          obtain ⟨⟨a1, a2, a3⟩, n⟩ := y
          have hpos := Lx.first_pos readOf piOf pi_nil' HFF.out
          rw [List.length_drop, ← Lib.size_eq] at hpos
          have HW2 : Hid (Lx.words readOf piOf (s.data.toList.drop (k + n)) (k + n) (acc ++ [(a1, a2, a3)]) = R) := Lib.hid (by
            rw [← HW.out, HHD.out, Lx.words_some readOf piOf HBK.out (by rw [← HHD.out]; exact HFF.out), List.drop_drop]
            congr 2
            omega)
          have HF : Hid (Calls Tryz.prog 16 #[.string (s.extract k s.size)] wr fun e w' => e = .returned (.tuple #[.agg #[.int .u8 a1, .string ⟨a2.toArray⟩, .int .i64 a3], .int .i64 (n : Int)]) ∧ Below wr.heap.size wr w') := HF
          have n0 : (1 : Int) ≤ (n : Int) := by omega
          have n1 : (n : Int) ≤ 1000 := by omega
          have n2 : ((n : Int) == 0) = false := by simp; omega
          have hkn : k + n ≤ s.size := by omega
          have HKN : Hid (acc.length + 1 ≤ 1048576) := Lib.hid (by omega)
          have n3 : (k : Int) + (n : Int) ≤ 1000 := by omega
          have hac2 : (acc ++ [((a1, a2, a3) : Lx.Tk)]).length ≤ k + n := by simp; omega
          have HAC := Lib.hid hac2
          clear HFF HW HR hpos hac2
          go_wp2_with fail
          (with_reducible refine HF.out.mono ?_)
          rintro e w2 ⟨rfl, q⟩
          have HB2 := Lib.hid (HB.out.trans (q.mono HB.out.size))
          have HO2 := Lib.hid (keepB HO.out q)
          clear q HF HO HB
          go_wp2_with (at_builtin; go_loud (refine appK rfl _ _ rfl w.heap.size _ u4 acc rfl ((HO2.out.alloc _).alloc _) (w2.heap.size + 1) 1 1 [((a1, a2, a3) : Lx.Tk)] #[.int .u8 a1, .string ⟨a2.toArray⟩, .int .i64 a3] rfl (by rw [show w2.heap.size + 1 = (w2.alloc (.cells #[.int .u8 a1, .string ⟨a2.toArray⟩, .int .i64 a3] 27)).heap.size by simp]; exact al_new _ _) (one_cells (a1, a2, a3)) rfl HKN.out (by have := HB2.out.size; simp; omega) ?_); intro v6 w6 HO6 HG6; have HO6 := Lib.hid HO6; have HG6 := Lib.hid HG6)
          have HB3 : Hid (Below w.heap.size w w6) := Lib.hid (by
            have K1 := HB2.out.alloc HB2.out.size (.cells #[.int .u8 a1, .string ⟨a2.toArray⟩, .int .i64 a3] 27)
            have K2 := K1.alloc K1.size (.cells #[.int .u8 a1, .string ⟨a2.toArray⟩, .int .i64 a3] 27)
            exact K2.grown HG6.out K2.size (fun q e => (HO2.out.lt q e).1))
          clear HG6 HO2 HB2
          go_roundw
          case rel => exact ⟨k + n, acc ++ [(a1, a2, a3)], hkn, HAC.out, by go_num, HB3, HO6, HW2⟩
          case measure => simp [intOf]; omega
    · obtain rfl : k = s.size := by omega
      obtain rfl : R = (acc, -1) := by
        rw [← HW.out, List.drop_of_length_le (by rw [← Lib.size_eq]; exact Nat.le_refl _), Lx.words_nil]
      clear HW HR
      obtain ⟨ao, c, rfl⟩ : ∃ ao c, u4 = .slice ao acc.length c := by
        rcases HO.out.2 with ⟨e, z⟩ | ⟨g, cap, cur, e, _⟩
        · exact ⟨none, 0, by rw [e, z]⟩
        · exact ⟨_, cap, e⟩
      go_wp2
      try rw [Exit.noGoto_ret]
      go_returns
      exact ⟨_, rfl, HO, HB⟩
theorem rwords_lit (s : ByteArray) (l : List Lx.Tk) (n : Nat) (hn : l.length = n) (e : Int) (hw : Lx.words readOf piOf s.data.toList 0 [] = (l, e)) (w : World) (hs : s.size ≤ 1000) :
    Calls Tryz.prog 6 #[.string s] w fun e' w' => ∃ ao c, e' = .returned (.tuple #[.slice ao n c, .int .i64 e]) ∧ Hid (TkAt w' ao n c l) ∧ Below w.heap.size w w' := by
  subst hn
  have h := rwords_any s w hs
  rw [hw] at h
  refine h.mono ?_
  rintro e' w' ⟨v, rfl, ho, hb⟩
  obtain ⟨ao, c, rfl, ht⟩ := own_tk ho.out
  exact ⟨ao, c, rfl, Lib.hid ht, hb.out⟩
set_option maxRecDepth 8000 in
set_option maxHeartbeats 4000000 in
theorem lexTells_walk (s : ByteArray) (ao : Option Addr) (n c : Nat) (l : List Lx.Tk) (w : World) (hT : Tx w) (hs : s.size ≤ maxLen) (hl : TkAt w ao n c l) (hb : TkB l) : Calls Tryz.prog 3 #[.string s, .slice ao n c] w fun e w' => e = .returned (.bool true) ∧ Below w.heap.size w w' := by
  have HTX := Lib.hid hT
  unfold maxLen at hs
  have HB : Hid (Below w.heap.size w w) := Lib.hid (Below.refl _ _)
  have HL := Lib.hid hl
  have HBD := Lib.hid hb
  have n0 : (0 : Int) ≤ (n : Int) := by omega
  have n9 : (n : Int) ≤ 9223372036854775807 := by have := hl.le; have := hl.top; omega
  clear hT hl hb
  by_cases c2 : s.size ≤ 500
  · have c2' : (s.size : Int) ≤ 500 := by omega
    by_cases c1 : n ≤ 50
    · have c1' : (n : Int) ≤ 50 := by omega
      obtain ⟨⟨a, at_⟩, hR⟩ : ∃ R, Lx.words readOf piOf s.data.toList 0 [] = R := ⟨_, rfl⟩
      obtain ⟨m, hm⟩ : ∃ m, a.length = m := ⟨_, rfl⟩
      have HW1 := Lib.hid (fun W (h : Tx W) => words_lit s a m hm at_ hR W h (by omega))
      have HW2 := Lib.hid (fun W => rwords_lit s a m hm at_ hR W (by omega))
      obtain ⟨J, hJ⟩ : ∃ J : ByteArray, ⟨(joinT l).toArray⟩ = J := ⟨_, rfl⟩
      have HT1 := Lib.hid (fun W (h : Tx W) (q : Below w.heap.size w W) => Text_any ao n c l W h (HL.out.keep q) HBD.out (by omega))
      have HT2 := Lib.hid (fun W (q : Below w.heap.size w W) => rText_any ao n c l W (HL.out.keep q) HBD.out (by omega))
      rw [hJ] at HT1 HT2
      clear hR hm hJ hs
      go_enter Tryz.func3, Tryz.ntmps3
      go_wp2_with fail
      (with_reducible refine (HW1.out _ (HTX.out.keep HB.out)).mono ?_)
      rintro e w2 ⟨oa, ca, rfl, HA, q⟩
      have HB := Lib.hid (HB.out.trans (q.mono HB.out.size))
      clear q HW1
      go_wp2_with fail
      (with_reducible refine (HW2.out _).mono ?_)
      rintro e w3 ⟨ob, cb, rfl, HC, q⟩
      have HA := Lib.hid (HA.out.keep q)
      have HB := Lib.hid (HB.out.trans (q.mono HB.out.size))
      clear q HW2
      go_upto_region 6 with fail
      go_loopw [10, 32] (fun s10 ii wr => ∃ j : Nat, j ≤ n ∧ ii = .int .i64 j ∧ Hid (Below w.heap.size w wr) ∧ Hid (Below w3.heap.size w3 wr)) (fun s10 ii _ => n - (intOf ii).toNat)
      case atStart => exact ⟨0, Nat.zero_le _, rfl, HB, Lib.hid (Below.refl _ _)⟩
      case round =>
        have HB3 := HB
        clear HB
        obtain ⟨j, hj, rfl, HB, HK⟩ := hrel
        have i0 : (0 : Int) ≤ (j : Int) := by omega
        by_cases jlt : j < n
        · have i1 : (j : Int) < n := by omega
          obtain ⟨xb, xp, rfl, hx⟩ := HL.out.here (by omega)
          have hjl : j < l.length := by rw [HL.out.len]; exact jlt
          have cx := hx j hjl
          have hbj := HBD.out _ (List.getElem_mem hjl)
          obtain ⟨T, hT⟩ : ∃ T, l[j]'hjl = T := ⟨_, rfl⟩
          rw [hT] at cx hbj
          obtain ⟨t1, t2, t3⟩ := T
          have c0 := cell_keep cx.1 HB.out
          have c1 := cell_keep cx.2.1 HB.out
          have c2 := cell_keep cx.2.2 HB.out
          obtain ⟨⟨b1, b2⟩, b3, b4, b5⟩ := hbj
          dsimp only at c0 c1 c2 b1 b2 b3 b4 b5
          obtain ⟨r, hr⟩ : ∃ r, rightT (t1, t2, t3) = r := ⟨_, rfl⟩
          have HR1 := Lib.hid (fun W (h : Tx W) => right_any t1 t2 t3 W h b1 b2 b3)
          have HR2 := Lib.hid (fun W => rright_any t1 t2 t3 W b1 b2 b3)
          rw [hr] at HR1 HR2
          clear hx hT cx hr b3
          obtain ⟨eb, heb⟩ : ∃ z, wr.heap.size = z := ⟨_, rfl⟩
          go_upto_region 8 with fail
          obtain ⟨wa, hwa⟩ : ∃ z, wr.alloc (.cells #[.int .u8 t1, .string ⟨t2.toArray⟩, .int .i64 t3] 27) = z := ⟨_, rfl⟩
          have XB : Hid (wa.heap[eb]? = some (.cells #[.int .u8 t1, .string ⟨t2.toArray⟩, .int .i64 t3] 27 (0, 0))) := Lib.hid (by rw [← hwa, ← heb, al_new])
          have KW : Below wr.heap.size wr wa := by rw [← hwa]; exact (Below.refl _ wr).alloc (Nat.le_refl _) _
          have HBa := Lib.hid (HB.out.trans (KW.mono HB.out.size))
          have HKa := Lib.hid (HK.out.trans (KW.mono HK.out.size))
          have KP : Hid (∀ W W' (h : Hid (Below w.heap.size w W ∧ Below w3.heap.size w3 W) ∧ W.cell? ⟨eb, 0, none⟩ = some (.int .u8 t1) ∧ W.cell? ⟨eb, 1, none⟩ = some (.string ⟨t2.toArray⟩) ∧ W.cell? ⟨eb, 2, none⟩ = some (.int .i64 t3)), Below W.heap.size W W' → Hid (Below w.heap.size w W' ∧ Below w3.heap.size w3 W') ∧ W'.cell? ⟨eb, 0, none⟩ = some (.int .u8 t1) ∧ W'.cell? ⟨eb, 1, none⟩ = some (.string ⟨t2.toArray⟩) ∧ W'.cell? ⟨eb, 2, none⟩ = some (.int .i64 t3)) := Lib.hid (fun W W' h q => ⟨Lib.hid ⟨h.1.out.1.trans (q.mono h.1.out.1.size), h.1.out.2.trans (q.mono h.1.out.2.size)⟩, cell_keep h.2.1 q, cell_keep h.2.2.1 q, cell_keep h.2.2.2 q⟩)
          have S0 := KP.out wa wa.drew ⟨Lib.hid ⟨HBa.out, HKa.out⟩, cell_blk XB.out 0, cell_blk XB.out 1, cell_blk XB.out 2⟩ (Below.refl _ wa).drew
          have S0 := Lib.hid S0
          rw [hwa]
          clear KW HB HK XB hwa heb c0 c1 c2
          cases r
          · skip
            go_region_held3 (fun W => Hid (Below w.heap.size w W ∧ Below w3.heap.size w3 W) ∧ W.cell? ⟨eb, 0, none⟩ = some (.int .u8 t1) ∧ W.cell? ⟨eb, 1, none⟩ = some (.string ⟨t2.toArray⟩) ∧ W.cell? ⟨eb, 2, none⟩ = some (.int .i64 t3)) (first | exact S0.out | exact S2.out | exact S1.out)
              ((first
                | (go_at_call 7; (with_reducible refine (HR1.out _ (HTX.out.keep (by first | exact S2.out.1.out.1 | exact S1.out.1.out.1 | exact S0.out.1.out.1))).mono ?_); rintro e z ⟨rfl, q1⟩; have S1 := Lib.hid (KP.out _ _ (by assumption) q1))
                | (go_at_call 8; (with_reducible refine (HR2.out _).mono ?_); rintro e z2 ⟨rfl, q2⟩; have S2 := Lib.hid (KP.out _ _ (by assumption) q2))
                | fail))
            all_goals clear S0 KP
            all_goals go_wp2
            all_goals go_roundw
            all_goals first
              | exact ⟨j + 1, by omega, by go_num, Lib.hid S2.out.1.out.1, Lib.hid S2.out.1.out.2⟩
              | exact ⟨j + 1, by omega, by go_num, Lib.hid S1.out.1.out.1, Lib.hid S1.out.1.out.2⟩
              | (simp [intOf]; omega)
          · skip
            go_region_held3 (fun W => Hid (Below w.heap.size w W ∧ Below w3.heap.size w3 W) ∧ W.cell? ⟨eb, 0, none⟩ = some (.int .u8 t1) ∧ W.cell? ⟨eb, 1, none⟩ = some (.string ⟨t2.toArray⟩) ∧ W.cell? ⟨eb, 2, none⟩ = some (.int .i64 t3)) (first | exact S0.out | exact S2.out | exact S1.out)
              ((first
                | (go_at_call 7; (with_reducible refine (HR1.out _ (HTX.out.keep (by first | exact S2.out.1.out.1 | exact S1.out.1.out.1 | exact S0.out.1.out.1))).mono ?_); rintro e z ⟨rfl, q1⟩; have S1 := Lib.hid (KP.out _ _ (by assumption) q1))
                | (go_at_call 8; (with_reducible refine (HR2.out _).mono ?_); rintro e z2 ⟨rfl, q2⟩; have S2 := Lib.hid (KP.out _ _ (by assumption) q2))
                | fail))
            all_goals clear S0 KP
            all_goals go_wp2
            all_goals go_roundw
            all_goals first
              | exact ⟨j + 1, by omega, by go_num, Lib.hid S2.out.1.out.1, Lib.hid S2.out.1.out.2⟩
              | exact ⟨j + 1, by omega, by go_num, Lib.hid S1.out.1.out.1, Lib.hid S1.out.1.out.2⟩
              | (simp [intOf]; omega)
        · obtain rfl : j = n := by omega
          have HA := Lib.hid (HA.out.keep HK.out)
          have HC := Lib.hid (HC.out.keep HK.out)
          clear HK
          go_wp2_with fail
          (with_reducible refine (same_any oa ob m ca cb a wr HA.out HC.out).mono ?_)
          rintro e w4 ⟨rfl, q⟩
          have HB := Lib.hid (HB.out.trans (q.mono HB.out.size))
          clear q HA HC
          go_wp2_with fail
          (with_reducible refine (HT1.out _ (HTX.out.keep HB.out) HB.out).mono ?_)
          rintro e w5 ⟨rfl, q⟩
          have HB := Lib.hid (HB.out.trans (q.mono HB.out.size))
          clear q HT1
          go_wp2_with fail
          (with_reducible refine (HT2.out _ HB.out).mono ?_)
          rintro e w6 ⟨rfl, q⟩
          have HB := Lib.hid (HB.out.trans (q.mono HB.out.size))
          clear q HT2
          have HQ := Lib.hid (awake_any w6 (HTX.out.keep HB.out))
          go_wp2_with fail
          (with_reducible refine HQ.out.mono ?_)
          rintro e wz ⟨rfl, q9⟩
          have HF9 := Lib.hid (HB.out.trans (q9.mono HB.out.size))
          clear q9
          go_wp2
          go_returns
          exact ⟨rfl, HF9.out⟩
    · have c1' : (50 : Int) < (n : Int) := by omega
      go_enter Tryz.func3, Tryz.ntmps3
      have HQ := Lib.hid (awake_any w (HTX.out.keep HB.out))
      go_wp2_with fail
      (with_reducible refine HQ.out.mono ?_)
      rintro e wz ⟨rfl, q9⟩
      have HF9 := Lib.hid (HB.out.trans (q9.mono HB.out.size))
      clear q9
      go_wp2
      go_returns
      exact ⟨rfl, HF9.out⟩
  · have c2' : (500 : Int) < (s.size : Int) := by omega
    go_enter Tryz.func3, Tryz.ntmps3
    have HQ := Lib.hid (awake_any w (HTX.out.keep HB.out))
    go_wp2_with fail
    (with_reducible refine HQ.out.mono ?_)
    rintro e wz ⟨rfl, q9⟩
    have HF9 := Lib.hid (HB.out.trans (q9.mono HB.out.size))
    clear q9
    go_wp2
    go_returns
    exact ⟨rfl, HF9.out⟩
end Go.Proofs.YthkddellilhhaaaGreatDoor
