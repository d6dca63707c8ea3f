/- Contract: (*store).form. -/
import Derived.Test.YtacpcokmgahjaaaDoorB6
namespace Go.Proofs.YtacpcokmgahjaaaDoor
set_option linter.unusedVariables false
set_option linter.unusedSimpArgs false
open Go.ChangeShapes Go.WideShapes Go.ChangeAt Go.RowKit
set_option maxRecDepth 8000 in
set_option maxHeartbeats 4000000 in
theorem form_any (i : Nat) (hi : i < 6) (w : World) (m c k g : Nat) (st : Nat → Bool) (n : Int) (n0 : 0 ≤ n) (n1 : n ≤ 1000) (hT : Tab w) (hC : Cd w m c k g st n) (h0 : 0 < g) :
    Calls Tryd.prog 23 #[.pointer (some ⟨k, 0, none⟩), .int .i64 (i : Int)] w fun e w' => ∃ h, e = .returned (.agg #[.int .i64 (bP i), .int .i64 (bN i : Int), .slice (some ⟨h, 0, none⟩) (bN i) (bN i), .slice none 0 0]) ∧ Hid (CoAt w' (some ⟨h, 0, none⟩) (bN i) (bN i) (bC i)) ∧ Hid (∀ W, Same5 m c k g w.heap.size w' W → ∃ m2, Cd W m2 c k g (upd st i) (cntB st i n)) ∧ Hid (But2 k g w w') := by
  have HT := Lib.hid hT
  have HC := Lib.hid hC
  have lk := Lib.hid (Array.getElem?_eq_some_iff.1 hC.kb).1
  have lg : Hid (g < w.heap.size) := Lib.hid (by obtain ⟨cur, a, _⟩ := hC.gb; exact (Array.getElem?_eq_some_iff.1 a).1)
  have i0 : (0 : Int) ≤ (i : Int) := by omega
  have i1 : (i : Int) < 6 := by omega
  clear hT hC
  obtain ⟨sb, hsb⟩ : ∃ b, w.heap.size = b := ⟨_, rfl⟩
  obtain ⟨w1, hwc⟩ : ∃ w1, ((w.alloc (.cells #[.pointer (some ⟨k, 0, none⟩)] 57)).alloc (.cells #[.int .i64 (i : Int)] 3)).alloc (.cells #[.int .i64 0, .int .i64 0, .slice none 0 0, .slice none 0 0] 29) = w1 := ⟨_, rfl⟩
  have KC : Below w.heap.size w w1 := by rw [← hwc]; exact (((Below.refl _ w).alloc (Nat.le_refl _) _).alloc (by simp) _).alloc (by simp; omega) _
  have zc : w1.heap.size = sb + 3 := by rw [← hwc, ← hsb]; simp
  have b1 : w1.heap[sb]? = some (.cells #[.pointer (some ⟨k, 0, none⟩)] 57 (0, 0)) := by rw [← hwc, al_old _ _ (by simp; omega), al_old _ _ (by simp; omega), ← hsb, al_new]
  have b2 : w1.heap[sb + 1]? = some (.cells #[.int .i64 (i : Int)] 3 (0, 0)) := by rw [← hwc, al_old _ _ (by simp; omega), show sb + 1 = (w.alloc (.cells #[.pointer (some ⟨k, 0, none⟩)] 57)).heap.size by simp; omega, al_new]
  have b3 : w1.heap[sb + 2]? = some (.cells #[.int .i64 0, .int .i64 0, .slice none 0 0, .slice none 0 0] 29 (0, 0)) := by rw [← hwc, show sb + 2 = ((w.alloc (.cells #[.pointer (some ⟨k, 0, none⟩)] 57)).alloc (.cells #[.int .i64 (i : Int)] 3)).heap.size by simp; omega, al_new]
  have HKC := Lib.hid KC
  have HZC := Lib.hid zc
  have HB1 := Lib.hid b1
  have HB2 := Lib.hid b2
  have HB3 := Lib.hid b3
  have HSB := Lib.hid hsb
  have HCC := Lib.hid (HC.out.keep KC)
  have c1 := cell_blk b1 0
  have c2 := cell_blk b2 0
  have c3 := cell_blk HCC.out.kb 0
  clear KC b1 b2 b3
  go_enter Tryd.func23, Tryd.ntmps23
  go_upto_region 1 with fail
  clear hwc hsb
  have KA := (Below.refl w1.heap.size w1).alloc (Nat.le_refl _) (.cells #[.pointer none] 93)
  have d1 := cell_keep c1 KA
  have d2 := cell_keep c2 KA
  have d3 := cell_keep c3 KA
  clear KA
  go_cut [5] from 6 to 11 (fun s5 wx => s5 = .pointer (some ⟨sb + 3, 0, none⟩) ∧ Hid (Below w1.heap.size w1 wx ∧ wx.heap[sb + 3]? = some (.cells #[.pointer (some ⟨g, i * 7, none⟩)] 93 (0, 0))))
  case first =>
    go_region_law (fail)
    all_goals
      clear d1 d2 d3
      go_wp2_with fail
      go_meet
      case rel => exact ⟨rfl, Lib.hid ⟨((Below.refl w1.heap.size w1).alloc (Nat.le_refl _) _).drew, by
        have := al_new w1 (.cells #[.pointer (some ⟨g, i * 7, none⟩)] 93)
        rw [zc] at this
        exact this⟩⟩
  case rest =>
    obtain ⟨rfl, HX⟩ := hcut
    have hmb := HC.out.mb
    have lk2 := lk.out
    have lg2 := lg.out
    have zw := HSB.out
    have zx := HX.out.1.size
    have HCX := Lib.hid (HCC.out.keep HX.out.1)
    have HDO := Lib.hid (do_cd i hi wc m c k g (sb + 1) (sb + 3) sb st n n0 n1 ((HT.out.keep HKC.out).keep HX.out.1) HCX.out h0 (cell_keep c2 HX.out.1) (cell_blk HX.out.2 0) (cell_keep c1 HX.out.1) (by omega) (by omega) (by omega))
    have e5 : wc.cell? ⟨sb + 3, 0, none⟩ = some (.pointer (some ⟨g, i * 7, none⟩)) := cell_blk HX.out.2 0
    have hroX := (HX.out.1.block (sb + 2) (by omega)).trans HB3.out
    have HRX := Lib.hid hroX
    have HZX : Hid (sb + 3 ≤ wc.heap.size) := Lib.hid (by omega)
    clear c1 c2 c3 hroX hmb lk2 lg2 zw zx zc
    go_wp2_with fail
    (with_reducible refine HDO.out.mono ?_)
    rintro e we ⟨rfl, HCE, HTE, HBU⟩
    have hmb := HC.out.mb
    have lk2 := lk.out
    have lg2 := lg.out
    have zw := HSB.out
    have zx := HZX.out
    have e5 : we.cell? ⟨sb + 3, 0, none⟩ = some (.pointer (some ⟨g, i * 7, none⟩)) := cell_but e5 HBU.out (by show sb + 3 ≠ k; omega) (by show sb + 3 ≠ g; omega)
    have hro : we.heap[sb + 2]? = some (.cells #[.int .i64 0, .int .i64 0, .slice none 0 0, .slice none 0 0] 29 (0, 0)) := (HBU.out.old (sb + 2) (by omega) (by omega) (by omega)).trans HRX.out
    obtain ⟨h, cur, hg, hs, x3, x4, x5, x6, hco⟩ := HTE.out
    have g3 : we.cell? ⟨g, i * 7 + 3, none⟩ = some (.int .i64 (bP i)) := by rw [cell_blk hg]; exact x3
    have g4 : we.cell? ⟨g, i * 7 + 3 + 1, none⟩ = some (.int .i64 (bN i : Int)) := by rw [cell_blk hg]; exact x4
    have g5 : we.cell? ⟨g, i * 7 + 3 + 2, none⟩ = some (.slice (some ⟨h, 0, none⟩) (bN i) (bN i)) := by rw [cell_blk hg]; exact x5
    have g6 : we.cell? ⟨g, i * 7 + 3 + 3, none⟩ = some (.slice none 0 0) := by rw [cell_blk hg]; exact x6
    have HCO := Lib.hid hco
    have HRO := Lib.hid hro
    have r0 : we.cell? ⟨sb + 1 + 1, 0, none⟩ = some (.int .i64 0) := cell_blk hro 0
    have r1 : we.cell? ⟨sb + 1 + 1, 1, none⟩ = some (.int .i64 0) := cell_blk hro 1
    have r2 : we.cell? ⟨sb + 1 + 1, 2, none⟩ = some (.slice none 0 0) := cell_blk hro 2
    have r3 : we.cell? ⟨sb + 1 + 1, 3, none⟩ = some (.slice none 0 0) := cell_blk hro 3
    have f0 : we.frozen? ⟨sb + 1 + 1, 0, none⟩ = false := blk_free hro 0
    have f1 : we.frozen? ⟨sb + 1 + 1, 1, none⟩ = false := blk_free hro 1
    have f2 : we.frozen? ⟨sb + 1 + 1, 2, none⟩ = false := blk_free hro 2
    have f3 : we.frozen? ⟨sb + 1 + 1, 3, none⟩ = false := blk_free hro 3
    clear hco hg hs x3 x4 x5 x6 hro HTE hmb lk2 lg2 zw zx HDO
    go_wp2_with fail
    have gf := grow_four we (sb + 1 + 1) (.int .i64 (bP i)) (.int .i64 (bN i : Int)) (.slice (some ⟨h, 0, none⟩) (bN i) (bN i)) (.slice none 0 0)
    have hrs := blk_four HRO.out (.int .i64 (bP i)) (.int .i64 (bN i : Int)) (.slice (some ⟨h, 0, none⟩) (bN i) (bN i)) (.slice none 0 0)
    have hmb := HC.out.mb
    have lk2 := lk.out
    have lg2 := lg.out
    have zw := HSB.out
    have zx := HZX.out
    have ze := HBU.out.size
    have lc2 : c < sb := by have := (Array.getElem?_eq_some_iff.1 HC.out.cb).1; omega
    have lro := (Array.getElem?_eq_some_iff.1 HRO.out).1
    generalize (((we.setCell ⟨sb + 1 + 1, 0, none⟩ (.int .i64 (bP i))).setCell ⟨sb + 1 + 1, 1, none⟩ (.int .i64 (bN i : Int))).setCell ⟨sb + 1 + 1, 2, none⟩ (.slice (some ⟨h, 0, none⟩) (bN i) (bN i))).setCell ⟨sb + 1 + 1, 3, none⟩ (.slice none 0 0) = wf at gf hrs ⊢
    have kf : ∀ q, q < we.heap.size → q ≠ sb + 2 → wf.heap[q]? = we.heap[q]? := fun q h1 h2 => gf.block q h1 (fun z => h2 (Option.some.inj z))
    clear r0 r1 r2 r3 f0 f1 f2 f3 g3 g4 g5 g6 e5
    have r0 : wf.cell? ⟨sb + 1 + 1, 0, none⟩ = some (.int .i64 (bP i)) := cell_blk hrs 0
    have r1 : wf.cell? ⟨sb + 1 + 1, 1, none⟩ = some (.int .i64 (bN i : Int)) := cell_blk hrs 1
    have r2 : wf.cell? ⟨sb + 1 + 1, 2, none⟩ = some (.slice (some ⟨h, 0, none⟩) (bN i) (bN i)) := cell_blk hrs 2
    have r3 : wf.cell? ⟨sb + 1 + 1, 3, none⟩ = some (.slice none 0 0) := cell_blk hrs 3
    refine bodyPost_ret (v := .agg #[.int .i64 (bP i), .int .i64 (bN i : Int), .slice (some ⟨h, 0, none⟩) (bN i) (bN i), .slice none 0 0]) (by simp [results, Tryd.results23, go_sem, r0, r1, r2, r3]) rfl ⟨h, rfl, Lib.hid (HCO.out wf (fun q q1 q2 => kf q q1 (by omega))), Lib.hid ?_, Lib.hid ⟨?_, ?_, ?_, ?_, fun q q1 q2 q3 => ?_⟩⟩
    · exact fun W hW => HCE.out W ⟨by have := gf.size; have := hW.1; omega, fun q q1 q2 => (hW.2 q (by have := gf.size; omega) (by rcases q2 with q2 | q2 | q2 | q2 | q2 <;> omega)).trans (kf q q1 (by rcases q2 with q2 | q2 | q2 | q2 | q2 <;> omega))⟩
    · exact gf.os.trans (HBU.out.os.trans (HX.out.1.os.trans HKC.out.os))
    · exact gf.tape.trans (HBU.out.tape.trans (HX.out.1.tape.trans HKC.out.tape))
    · exact gf.output.trans (HBU.out.output.trans (HX.out.1.output.trans HKC.out.output))
    · have := gf.size; omega
    · exact (kf q (by omega) (by omega)).trans ((HBU.out.old q (by omega) q2 q3).trans ((HX.out.1.block q (by have := HZC.out; omega)).trans (HKC.out.block q q1)))
end Go.Proofs.YtacpcokmgahjaaaDoor
