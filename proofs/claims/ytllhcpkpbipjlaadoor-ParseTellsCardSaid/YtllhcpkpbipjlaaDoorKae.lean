/- Z6 in one. -/
import Derived.Test.YtllhcpkpbipjlaaDoorKad
namespace Go.Proofs.YtllhcpkpbipjlaaDoor
set_option linter.unusedVariables false
set_option linter.unusedSimpArgs false
open Go.ChangeShapes Go.WideShapes Go.ChangeAt Go.RowKit
set_option maxHeartbeats 2000000 in
theorem rwords_any (s : ByteArray) (w : World) (hs : s.size ≤ 1000) :
    Calls Tryd.prog 46 #[.string s] w fun e w' => ∃ v', e = .returned (.tuple #[v', .int .i64 (Lx.words readOf piOf s.data.toList 0 []).2]) ∧ Hid (w'.ownsRow w.heap.size 47 3 v' (Lx.words readOf piOf s.data.toList 0 []).1.length (tkCells (Lx.words readOf piOf s.data.toList 0 []).1)) ∧ Hid (Below w.heap.size w w') := by
  obtain ⟨R, hR⟩ : ∃ R, Lx.words readOf piOf s.data.toList 0 [] = R := ⟨_, rfl⟩
  rw [hR]
  have HR := Lib.hid hR
  have s1 : (s.size : Int) ≤ 1000 := by omega
  clear hR
  go_enter Tryd.func46, Tryd.ntmps46
  go_upto_region 3 with fail
  go_loopw [4, 5, 6, 7] (fun s4 s5 s6 s7 wr => ∃ (k : Nat) (acc : List Lx.Tk), k ≤ s.size ∧ acc.length ≤ k ∧ s5 = .int .i64 k ∧ Hid (Below w.heap.size w wr) ∧ Hid (wr.ownsRow w.heap.size 47 3 s4 acc.length (tkCells acc)) ∧ Hid (Lx.words readOf piOf (s.data.toList.drop k) k acc = R)) (fun s4 s5 s6 s7 _ => s.size - (intOf s5).toNat)
  case atStart => exact ⟨0, [], Nat.zero_le _, Nat.le_refl _, rfl, Lib.hid (Below.refl _ _), Lib.hid (World.ownsRow_nil _ _ _ _), Lib.hid (by rw [List.drop_zero]; exact HR.out)⟩
  case round =>
    obtain ⟨k, acc, hk, hac, rfl, HB, HO, HW⟩ := hrel
    have i0 : (0 : Int) ≤ (k : Int) := by omega
    by_cases klt : k < s.size
    · have i1 : (k : Int) < s.size := by omega
      have hdr := drop_at s k klt
      obtain ⟨c, hc⟩ : ∃ c, s[k] = c := ⟨_, rfl⟩
      rw [hc] at hdr
      obtain ⟨x, hx⟩ : ∃ x : Int, (c.toNat : Int) = x := ⟨_, rfl⟩
      have hgc : ((s[k]).toNat : Int) = x := by rw [hc]; exact hx
      by_cases bl : x = 32 ∨ x = 9
      · have HW2 : Hid (Lx.words readOf piOf (s.data.toList.drop (k + 1)) (k + 1) acc = R) := Lib.hid (by
          rw [← HW.out, hdr, Lx.words_blank readOf piOf (by unfold Lx.blk; rw [decide_eq_true_iff]; omega)])
        clear hdr hc hx
        rcases bl with rfl | rfl
        · go_wp2
          go_roundw
          case rel => exact ⟨k + 1, acc, by omega, by omega, by go_num, HB, HO, HW2⟩
          case measure => simp [intOf]; omega
        · go_wp2
          go_roundw
          case rel => exact ⟨k + 1, acc, by omega, by omega, by go_num, HB, HO, HW2⟩
          case measure => simp [intOf]; omega
      · have b1 : (x == 32) = false := by simp; exact fun z => bl (.inl z)
        have b2 : (x == 9) = false := by simp; exact fun z => bl (.inr z)
        have hbk : Lx.blk c = false := by unfold Lx.blk; rw [decide_eq_false_iff_not]; omega
        have HE : Hid ((s.extract k s.size).data.toList = s.data.toList.drop k) := Lib.hid (by rw [Lib.extract_data, List.take_of_length_le]; rw [List.length_drop, ← Lib.size_eq]; omega)
        have hes : (s.extract k s.size).size = s.size - k := by rw [Lib.size_eq, HE.out, List.length_drop, ← Lib.size_eq]
        have HF := Lib.hid (one_any (s.extract k s.size) wr (by omega) (by omega))
        rw [HE.out] at HF
        have HHD := Lib.hid hdr
        have HBK := Lib.hid hbk
        obtain ⟨F, hF⟩ : ∃ F, Lx.first readOf piOf (s.data.toList.drop k) = F := ⟨_, rfl⟩
        rw [hF] at HF
        have HFF := Lib.hid hF
        clear hF hdr hc hx bl hbk hes
        cases F with
        | none =>
          obtain rfl : R = ([], (k : Int)) := by
            rw [← HW.out, HHD.out]
            exact Lx.words_none readOf piOf HBK.out (by rw [← HHD.out]; exact HFF.out) k acc
          have HF : Hid (Calls Tryd.prog 58 #[.string (s.extract k s.size)] wr fun e w' => e = .returned (.tuple #[.agg #[.int .u8 0, .string ⟨#[]⟩, .int .i64 0], .int .i64 0]) ∧ Below wr.heap.size wr w') := HF
          clear HFF HW HO HR
          go_wp2_with fail
          (with_reducible refine HF.out.mono ?_)
          rintro e w2 ⟨rfl, q⟩
          have HB2 := Lib.hid ((HB.out.trans (q.mono HB.out.size)).alloc (Nat.le_trans HB.out.size q.size) (.cells #[.int .u8 0, .string ⟨#[]⟩, .int .i64 0] 47))
          clear q HF
          go_wp2
          go_returns
          exact ⟨_, rfl, Lib.hid (World.ownsRow_nil _ _ _ _), HB2⟩
        | some y =>
          obtain ⟨⟨a1, a2, a3⟩, n⟩ := y
          have hpos := Lx.first_pos readOf piOf pi_nil' HFF.out
          rw [List.length_drop, ← Lib.size_eq] at hpos
          have HW2 : Hid (Lx.words readOf piOf (s.data.toList.drop (k + n)) (k + n) (acc ++ [(a1, a2, a3)]) = R) := Lib.hid (by
            rw [← HW.out, HHD.out, Lx.words_some readOf piOf HBK.out (by rw [← HHD.out]; exact HFF.out), List.drop_drop]
            congr 2
            omega)
          have HF : Hid (Calls Tryd.prog 58 #[.string (s.extract k s.size)] wr fun e w' => e = .returned (.tuple #[.agg #[.int .u8 a1, .string ⟨a2.toArray⟩, .int .i64 a3], .int .i64 (n : Int)]) ∧ Below wr.heap.size wr w') := HF
          have n0 : (1 : Int) ≤ (n : Int) := by omega
          have n1 : (n : Int) ≤ 1000 := by omega
          have n2 : ((n : Int) == 0) = false := by simp; omega
          have hkn : k + n ≤ s.size := by omega
          have HKN : Hid (acc.length + 1 ≤ 1048576) := Lib.hid (by omega)
          have n3 : (k : Int) + (n : Int) ≤ 1000 := by omega
          have hac2 : (acc ++ [((a1, a2, a3) : Lx.Tk)]).length ≤ k + n := by simp; omega
          have HAC := Lib.hid hac2
          clear HFF HW HR hpos hac2
          go_wp2_with fail
          (with_reducible refine HF.out.mono ?_)
          rintro e w2 ⟨rfl, q⟩
          have HB2 := Lib.hid (HB.out.trans (q.mono HB.out.size))
          have HO2 := Lib.hid (keepB HO.out q)
          clear q HF HO HB
          go_wp2_with (at_builtin; go_loud (refine appK rfl _ _ rfl w.heap.size _ u4 acc rfl ((HO2.out.alloc _).alloc _) (w2.heap.size + 1) 1 1 [((a1, a2, a3) : Lx.Tk)] #[.int .u8 a1, .string ⟨a2.toArray⟩, .int .i64 a3] rfl (by rw [show w2.heap.size + 1 = (w2.alloc (.cells #[.int .u8 a1, .string ⟨a2.toArray⟩, .int .i64 a3] 47)).heap.size by simp]; exact al_new _ _) (one_cells (a1, a2, a3)) rfl HKN.out (by have := HB2.out.size; simp; omega) ?_); intro v6 w6 HO6 HG6; have HO6 := Lib.hid HO6; have HG6 := Lib.hid HG6)
          have HB3 : Hid (Below w.heap.size w w6) := Lib.hid (by
            have K1 := HB2.out.alloc HB2.out.size (.cells #[.int .u8 a1, .string ⟨a2.toArray⟩, .int .i64 a3] 47)
            have K2 := K1.alloc K1.size (.cells #[.int .u8 a1, .string ⟨a2.toArray⟩, .int .i64 a3] 47)
            exact K2.grown HG6.out K2.size (fun q e => (HO2.out.lt q e).1))
          clear HG6 HO2 HB2
          go_roundw
          case rel => exact ⟨k + n, acc ++ [(a1, a2, a3)], hkn, HAC.out, by go_num, HB3, HO6, HW2⟩
          case measure => simp [intOf]; omega
    · obtain rfl : k = s.size := by omega
      obtain rfl : R = (acc, -1) := by
        rw [← HW.out, List.drop_of_length_le (by rw [← Lib.size_eq]; exact Nat.le_refl _), Lx.words_nil]
      clear HW HR
      obtain ⟨ao, c, rfl⟩ : ∃ ao c, u4 = .slice ao acc.length c := by
        rcases HO.out.2 with ⟨e, z⟩ | ⟨g, cap, cur, e, _⟩
        · exact ⟨none, 0, by rw [e, z]⟩
        · exact ⟨_, cap, e⟩
      go_wp2
      try rw [Exit.noGoto_ret]
      go_returns
      exact ⟨_, rfl, HO, HB⟩
end Go.Proofs.YtllhcpkpbipjlaaDoor
