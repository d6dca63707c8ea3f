/- LexBack: the walk. -/
import Derived.Test.YthkddellilhhaaaDoorL19
import Derived.Test.YthkddellilhhaaaDoorL18
namespace Go.Proofs.YthkddellilhhaaaDoor
set_option linter.unusedVariables false
set_option linter.unusedSimpArgs false
open Go.ChangeShapes Go.WideShapes Go.ChangeAt Go.RowKit
theorem text_words (l : List Lx.Tk) (hb : TkB l) (w : World) (hT : Tx w) (hl : l.length ≤ 1000) (m : Nat) (hm : (l.filter rightT).length = m) : Calls Tryd.prog 8 #[.string ⟨(joinT l).toArray⟩] w fun e' w' => ∃ ao c, e' = .returned (.tuple #[.slice ao m c, .int .i64 (-1)]) ∧ Hid (TkAt w' ao m c (l.filter rightT)) ∧ Below w.heap.size w w' := by
  subst hm
  refine words_row ⟨(joinT l).toArray⟩ w hT ?_ (l.filter rightT) (-1) (words_text l hb)
  have h1 := join_len (texts l) (texts_small l hb)
  have h2 := texts_len l
  show (joinT l).toArray.size ≤ _
  rw [List.size_toArray]
  unfold joinT
  omega
set_option maxRecDepth 8000 in
set_option maxHeartbeats 4000000 in
theorem lexBack_walk (ao : Option Addr) (n c : Nat) (l : List Lx.Tk) (s : ByteArray) (w : World) (hT : Tx w) (hl : TkAt w ao n c l) (hb : TkB l) (hs : s.size ≤ maxLen) : Calls Tryd.prog 3 #[.slice ao n c, .string s] w fun e w' => e = .returned (.bool true) ∧ Below w.heap.size w w' := by
  have HTX := Lib.hid hT
  unfold maxLen at hs
  have HB : Hid (Below w.heap.size w w) := Lib.hid (Below.refl _ _)
  have HL := Lib.hid hl
  have HBD := Lib.hid hb
  have n0 : (0 : Int) ≤ (n : Int) := by omega
  have n9 : (n : Int) ≤ 9223372036854775807 := by have := hl.le; have := hl.top; omega
  clear hT hl hb
  by_cases c1 : n ≤ 50
  · have c1' : (n : Int) ≤ 50 := by omega
    by_cases c2 : s.size ≤ 500
    · have c2' : (s.size : Int) ≤ 500 := by omega
      obtain ⟨⟨b, to_⟩, hR⟩ : ∃ R, Lx.words readOf piOf s.data.toList 0 [] = R := ⟨_, rfl⟩
      obtain ⟨nb, hnb⟩ : ∃ nb, b.length = nb := ⟨_, rfl⟩
      have hp := Lx.words_place readOf piOf pi_nil _ s.data.toList (Nat.le_refl _)
      have hr := words_right _ s.data.toList (Nat.le_refl _)
      rw [hR] at hp hr
      rw [← Lib.size_eq] at hp hr
      have HRB := Lib.hid hr.1
      have HLB : Hid (b.length ≤ 500) := Lib.hid (Nat.le_trans hr.2 c2)
      have HWS := Lib.hid (fun W (h : Tx W) => words_row s W h (by omega) b to_ hR)
      have HP : Hid ((to_ = -1) ∨ (b = [] ∧ 0 ≤ to_ ∧ to_ < (s.size : Int))) := Lib.hid (by
        rcases hp with h | ⟨x, h, hx, _⟩
        · exact .inl h
        · injection h with h1 h2; exact .inr ⟨h1, by omega, by omega⟩)
      obtain ⟨F, hF⟩ : ∃ F, l.filter rightT = F := ⟨_, rfl⟩
      obtain ⟨m, hm⟩ : ∃ m, F.length = m := ⟨_, rfl⟩
      have hFl : m ≤ n := by rw [← hm, ← hF, ← HL.out.len]; exact List.length_filter_le _ _
      have HWT := Lib.hid (fun W (h : Tx W) => text_words l HBD.out W h (by rw [HL.out.len]; omega) m (by rw [hF]; exact hm))
      rw [hF] at HWT
      have HFE := Lib.hid hF
      have HFM := Lib.hid hm
      have HNB := Lib.hid hnb
      rw [hnb] at HWS HLB
      clear hR hp hr hF hm hs hnb
      go_enter Tryd.func3, Tryd.ntmps3
      go_upto_region 5 with fail
      go_loopw [5, 7, 27] (fun s5 s7 ii wr => ∃ j : Nat, j ≤ n ∧ ii = .int .i64 j ∧ Hid (Below w.heap.size w wr) ∧ Hid (wr.ownsRow w.heap.size 25 3 s5 ((l.take j).filter rightT).length (tkCells ((l.take j).filter rightT)))) (fun s5 s7 ii _ => n - (intOf ii).toNat)
      case atStart => exact ⟨0, Nat.zero_le _, rfl, HB, Lib.hid (World.ownsRow_nil _ _ _ _)⟩
      case round =>
        clear HB
        obtain ⟨j, hj, rfl, HB, HO⟩ := hrel
        have i0 : (0 : Int) ≤ (j : Int) := by omega
        by_cases jlt : j < n
        · have i1 : (j : Int) < n := by omega
          obtain ⟨xb, xp, rfl, hx⟩ := HL.out.here (by omega)
          have hjl : j < l.length := by rw [HL.out.len]; exact jlt
          have cx := hx j hjl
          have hbj := HBD.out _ (List.getElem_mem hjl)
          have HTK := Lib.hid (List.take_succ_eq_append_getElem hjl)
          obtain ⟨T, hT⟩ : ∃ T, l[j]'hjl = T := ⟨_, rfl⟩
          rw [hT] at cx hbj HTK
          obtain ⟨t1, t2, t3⟩ := T
          have c0 := cell_keep cx.1 HB.out
          have c1 := cell_keep cx.2.1 HB.out
          have c2 := cell_keep cx.2.2 HB.out
          obtain ⟨⟨b1, b2⟩, b3, b4, b5⟩ := hbj
          dsimp only at c0 c1 c2 b1 b2 b3 b4 b5
          obtain ⟨r, hr⟩ : ∃ r, rightT (t1, t2, t3) = r := ⟨_, rfl⟩
          have HRT := Lib.hid (fun W (h : Tx W) => right_any t1 t2 t3 W h b1 b2 b3)
          rw [hr] at HRT
          have HRR := Lib.hid hr
          clear hx hT cx hr b3
          obtain ⟨eb, heb⟩ : ∃ z, wr.heap.size = z := ⟨_, rfl⟩
          go_upto_region 7 with fail
          obtain ⟨wa, hwa⟩ : ∃ z, wr.alloc (.cells #[.int .u8 t1, .string ⟨t2.toArray⟩, .int .i64 t3] 25) = z := ⟨_, rfl⟩
          have XB : Hid (wa.heap[eb]? = some (.cells #[.int .u8 t1, .string ⟨t2.toArray⟩, .int .i64 t3] 25 (0, 0))) := Lib.hid (by rw [← hwa, ← heb, al_new])
          have KW : Below wr.heap.size wr wa := by rw [← hwa]; exact (Below.refl _ wr).alloc (Nat.le_refl _) _
          have HO2 := Lib.hid (keepB HO.out KW)
          have HB2 := Lib.hid (HB.out.trans (KW.mono HB.out.size))
          have g0 := cell_blk XB.out 0
          have g1 := cell_blk XB.out 1
          have g2 := cell_blk XB.out 2
          rw [hwa]
          clear KW HO
          go_wp2_with fail
          (with_reducible refine (HRT.out _ (HTX.out.keep HB2.out)).mono ?_)
          rintro e w2 ⟨rfl, k⟩
          have HB3 := Lib.hid (HB2.out.trans (k.mono HB2.out.size))
          have HO3 := Lib.hid (keepB HO2.out k)
          have XB2 := blk_keep XB.out k
          have g0 := cell_blk XB2 0
          have g1 := cell_blk XB2 1
          have g2 := cell_blk XB2 2
          clear k HO2 HB2 hwa heb c0 c1 c2 XB2
          cases r
          · have HO4 : Hid (w2.ownsRow w.heap.size 25 3 u5 ((l.take (j + 1)).filter rightT).length (tkCells ((l.take (j + 1)).filter rightT))) := Lib.hid (by
              rw [HTK.out, List.filter_append]
              simp [HRR.out]
              exact HO3.out)
            clear HO3
            go_wp2
            go_roundw
            case rel => exact ⟨j + 1, by omega, by go_num, HB3, HO4⟩
            case measure => simp [intOf]; omega
          · have HTL : Hid ((l.take (j + 1)).filter rightT = (l.take j).filter rightT ++ [(t1, t2, t3)]) := Lib.hid (by rw [HTK.out, List.filter_append]; simp [HRR.out])
            have HLN : Hid (((l.take j).filter rightT).length + 1 ≤ 1048576) := Lib.hid (by
              have := List.length_filter_le rightT (l.take j)
              rw [List.length_take] at this
              omega)
            go_wp2_with (at_builtin; go_loud (refine appK rfl _ _ rfl w.heap.size _ u5 ((l.take j).filter rightT) rfl (HO3.out.alloc _) w2.heap.size 1 1 [((t1, t2, t3) : Lx.Tk)] #[.int .u8 t1, .string ⟨t2.toArray⟩, .int .i64 t3] rfl (al_new w2 _) (one_cells (t1, t2, t3)) rfl HLN.out (by have := HB3.out.size; simp; omega) ?_); intro v6 w6 HO6 HG6; have HO6 := Lib.hid HO6; have HG6 := Lib.hid HG6)
            have HB5 : Hid (Below w.heap.size w w6) := Lib.hid (by
              have K1 := HB3.out.alloc HB3.out.size (.cells #[.int .u8 t1, .string ⟨t2.toArray⟩, .int .i64 t3] 25)
              exact K1.grown HG6.out K1.size (fun q e => (HO3.out.lt q e).1))
            have HO7 : Hid (w6.ownsRow w.heap.size 25 3 v6 ((l.take (j + 1)).filter rightT).length (tkCells ((l.take (j + 1)).filter rightT))) := Lib.hid (by rw [HTL.out]; exact HO6.out)
            clear HO6 HG6 HO3 HB3
            go_roundw
            case rel => exact ⟨j + 1, by omega, by go_num, HB5, HO7⟩
            case measure => simp [intOf]; omega
        · obtain rfl : j = n := by omega
          have HO2 : Hid (wr.ownsRow w.heap.size 25 3 u5 m (tkCells F)) := Lib.hid (by
            have := HO.out
            rw [List.take_of_length_le (by rw [HL.out.len]; exact Nat.le_refl _), HFE.out, HFM.out] at this
            exact this)
          obtain ⟨ar, cr, rfl, hcr⟩ := row_tk HO2.out
          have HAR : Hid (TkAt wr ar m cr F) := Lib.hid (by
            have h := HO2.out
            rw [← HFM.out] at h
            have := own_tk_at h
            rw [HFM.out] at this
            exact this)
          have HTA := Lib.hid (fun W (h : Tx W) (q : Below w.heap.size w W) => Text_any ao j c l W h (HL.out.keep q) HBD.out (by omega))
          clear HO HO2 hcr
          go_wp2_with fail
          (with_reducible refine (HTA.out _ (HTX.out.keep HB.out) HB.out).mono ?_)
          rintro e w2 ⟨rfl, q⟩
          have HB := Lib.hid (HB.out.trans (q.mono HB.out.size))
          have HAR := Lib.hid (HAR.out.keep q)
          clear q HTA
          go_wp2_with fail
          (with_reducible refine (HWT.out _ (HTX.out.keep HB.out)).mono ?_)
          rintro e w3 ⟨a3, c3, rfl, HA3, q⟩
          have HB := Lib.hid (HB.out.trans (q.mono HB.out.size))
          have HAR := Lib.hid (HAR.out.keep q)
          clear q HWT
          go_wp2_with fail
          (with_reducible refine (same_any a3 ar m c3 cr F w3 HA3.out HAR.out).mono ?_)
          rintro e w4 ⟨rfl, q⟩
          have HB := Lib.hid (HB.out.trans (q.mono HB.out.size))
          clear q HAR HA3
          go_wp2_with fail
          (with_reducible refine (HWS.out _ (HTX.out.keep HB.out)).mono ?_)
          rintro e w5 ⟨a5, c5, rfl, H5, q⟩
          have HB := Lib.hid (HB.out.trans (q.mono HB.out.size))
          clear q HWS
          rcases HP.out with rfl | ⟨rfl, hp1, hp2⟩
          · clear HP
            have HFB := HRB.out.filter
            have HTB := Lib.hid (fun W (h : Tx W) (q : TkAt W a5 nb c5 b) => Text_any a5 nb c5 b W h q HRB.out.b (by have := HLB.out; omega))
            have HWB := Lib.hid (fun W (h : Tx W) => text_words b HRB.out.b W h (by rw [HNB.out]; have := HLB.out; omega) nb (by rw [HFB]; exact HNB.out))
            rw [HFB] at HWB
            have nb0 : (0 : Int) ≤ (nb : Int) := by omega
            have nb9 : (nb : Int) ≤ 9223372036854775807 := by have := HLB.out; omega
            clear HFB
            go_wp2_with fail
            (with_reducible refine (HTB.out _ (HTX.out.keep HB.out) H5.out).mono ?_)
            rintro e w6 ⟨rfl, q⟩
            have HB := Lib.hid (HB.out.trans (q.mono HB.out.size))
            have H5 := Lib.hid (H5.out.keep q)
            clear q HTB
            go_wp2_with fail
            (with_reducible refine (HWB.out _ (HTX.out.keep HB.out)).mono ?_)
            rintro e w7 ⟨a7, c7, rfl, H7, q⟩
            have HB := Lib.hid (HB.out.trans (q.mono HB.out.size))
            have H5 := Lib.hid (H5.out.keep q)
            clear q HWB
            go_upto_region 18 with fail
            go_loopw [15, 83] (fun s15 ii wr => ∃ j : Nat, j ≤ nb ∧ ii = .int .i64 j ∧ Hid (Below w.heap.size w wr) ∧ Hid (Below w7.heap.size w7 wr)) (fun s15 ii _ => nb - (intOf ii).toNat)
            case atStart => exact ⟨0, Nat.zero_le _, rfl, HB, Lib.hid (Below.refl _ _)⟩
            case round =>
              clear HB
              obtain ⟨j2, hj2, rfl, HB, HK⟩ := hrel
              have i0 : (0 : Int) ≤ (j2 : Int) := by omega
              by_cases jlt2 : j2 < nb
              · have i1 : (j2 : Int) < nb := by omega
                obtain ⟨xb, xp, rfl, hx⟩ := H5.out.here (by omega)
                have hjl : j2 < b.length := by rw [HNB.out]; exact jlt2
                have cx := hx j2 hjl
                have hbj := HRB.out _ (List.getElem_mem hjl)
                obtain ⟨T, hT⟩ : ∃ T, b[j2]'hjl = T := ⟨_, rfl⟩
                rw [hT] at cx hbj
                obtain ⟨t1, t2, t3⟩ := T
                have c0 := cell_keep cx.1 HK.out
                have c1 := cell_keep cx.2.1 HK.out
                have c2 := cell_keep cx.2.2 HK.out
                obtain ⟨hrt, ⟨b1, b2⟩, b3, b4, b5⟩ := hbj
                dsimp only at c0 c1 c2 b1 b2 b3 b4 b5
                have HRT := Lib.hid (fun W (h : Tx W) => right_any t1 t2 t3 W h b1 b2 b3)
                rw [hrt] at HRT
                clear hx hT cx b3 hrt
                obtain ⟨eb, heb⟩ : ∃ z, wr.heap.size = z := ⟨_, rfl⟩
                go_upto_region 20 with fail
                obtain ⟨wa, hwa⟩ : ∃ z, wr.alloc (.cells #[.int .u8 t1, .string ⟨t2.toArray⟩, .int .i64 t3] 25) = z := ⟨_, rfl⟩
                have XB : Hid (wa.heap[eb]? = some (.cells #[.int .u8 t1, .string ⟨t2.toArray⟩, .int .i64 t3] 25 (0, 0))) := Lib.hid (by rw [← hwa, ← heb, al_new])
                have KW : Below wr.heap.size wr wa := by rw [← hwa]; exact (Below.refl _ wr).alloc (Nat.le_refl _) _
                have HB2 := Lib.hid (HB.out.trans (KW.mono HB.out.size))
                have HK2 := Lib.hid (HK.out.trans (KW.mono HK.out.size))
                have g0 := cell_blk XB.out 0
                have g1 := cell_blk XB.out 1
                have g2 := cell_blk XB.out 2
                rw [hwa]
                clear KW HB HK
                go_wp2_with fail
                (with_reducible refine (HRT.out _ (HTX.out.keep HB2.out)).mono ?_)
                rintro e w8 ⟨rfl, k⟩
                have HB3 := Lib.hid (HB2.out.trans (k.mono HB2.out.size))
                have HK3 := Lib.hid (HK2.out.trans (k.mono HK2.out.size))
                clear k HB2 HK2 hwa heb c0 c1 c2 g0 g1 g2 XB HRT
                go_wp2
                go_roundw
                case rel => exact ⟨j2 + 1, by omega, by go_num, HB3, HK3⟩
                case measure => simp [intOf]; omega
              · obtain rfl : j2 = nb := by omega
                have H5 := Lib.hid (H5.out.keep HK.out)
                have H7 := Lib.hid (H7.out.keep HK.out)
                clear HK
                go_wp2_with fail
                (with_reducible refine (same_any a5 a7 j2 c5 c7 b wr H5.out H7.out).mono ?_)
                rintro e w9 ⟨rfl, q⟩
                have HB := Lib.hid (HB.out.trans (q.mono HB.out.size))
                clear q H5 H7
                have HQ := Lib.hid (awake_any w9 (HTX.out.keep HB.out))
                go_wp2_with fail
                (with_reducible refine HQ.out.mono ?_)
                rintro e wz ⟨rfl, q9⟩
                have HF9 := Lib.hid (HB.out.trans (q9.mono HB.out.size))
                clear q9
                go_wp2
                go_returns
                exact ⟨rfl, HF9.out⟩
          · clear HP
            obtain rfl : nb = 0 := by rw [← HNB.out]; rfl
            have HQ := Lib.hid (awake_any w5 (HTX.out.keep HB.out))
            go_wp2_with fail
            (with_reducible refine HQ.out.mono ?_)
            rintro e wz ⟨rfl, q9⟩
            have HF9 := Lib.hid (HB.out.trans (q9.mono HB.out.size))
            clear q9
            go_wp2
            go_returns
            exact ⟨rfl, HF9.out⟩
    · have c2' : (500 : Int) < (s.size : Int) := by omega
      go_enter Tryd.func3, Tryd.ntmps3
      have HQ := Lib.hid (awake_any w (HTX.out.keep HB.out))
      go_wp2_with fail
      (with_reducible refine HQ.out.mono ?_)
      rintro e wz ⟨rfl, q9⟩
      have HF9 := Lib.hid (HB.out.trans (q9.mono HB.out.size))
      clear q9
      go_wp2
      go_returns
      exact ⟨rfl, HF9.out⟩
  · have c1' : (50 : Int) < (n : Int) := by omega
    go_enter Tryd.func3, Tryd.ntmps3
    have HQ := Lib.hid (awake_any w (HTX.out.keep HB.out))
    go_wp2_with fail
    (with_reducible refine HQ.out.mono ?_)
    rintro e wz ⟨rfl, q9⟩
    have HF9 := Lib.hid (HB.out.trans (q9.mono HB.out.size))
    clear q9
    go_wp2
    go_returns
    exact ⟨rfl, HF9.out⟩
end Go.Proofs.YthkddellilhhaaaDoor
