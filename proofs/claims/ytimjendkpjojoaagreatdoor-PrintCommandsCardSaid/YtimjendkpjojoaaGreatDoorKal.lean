/- M7 in one. -/
import Derived.Test.YtimjendkpjojoaaGreatDoorKak
namespace Go.Proofs.YtimjendkpjojoaaGreatDoor
set_option linter.unusedVariables false
set_option linter.unusedSimpArgs false
open Go.ChangeShapes Go.WideShapes Go.ChangeAt Go.RowKit

theorem tk_nlt {w : World} {ao : Option Addr} {n c : Nat} {l : List Lx.Tk} (h : TkAt w ao n c l) : n ≤ 9223372036854775807 := by have := h.le; have := h.top; omega
set_option maxRecDepth 20000 in
set_option maxHeartbeats 4000000 in
theorem expr_any (w : World) (ao : Option Addr) (n c : Nat) (l : List Lx.Tk) (hA : TkAt w ao n c l) (hB : Lx.TkB l) (hT : Tabn w) (hW : Tabw w) :
    Calls Tryz.prog 10 #[.slice ao n c] w fun e w' => ∃ z : Hv, e = .returned (.tuple #[.agg #[.int .u8 z.p.op, .string z.p.nm, .slice z.an z.nn z.nc, .slice z.aa z.p.k z.ac], .int .i64 (Lx.exprE l).2.1, .int .i64 (Lx.exprE l).2.2]) ∧ Hid (Below w.heap.size w w') ∧ Hid (ExAt (only (frB w.heap.size) w') 41 (hV z) (tour (Lx.exprE l).1)) := by
  obtain ⟨b, hb⟩ : ∃ z, w.heap.size = z := ⟨_, rfl⟩
  obtain ⟨w1, hw1⟩ : ∃ z, (w.alloc (.cells #[.int .u8 0, .string ⟨#[]⟩, .slice none 0 0, .slice none 0 0] 25)).alloc (.cells #[.slice ao n c, .int .i64 0, .int .i64 0, .int .i64 0] 64) = z := ⟨_, rfl⟩
  have KA : Below w.heap.size w w1 := by rw [← hw1]; exact ((Below.refl _ w).alloc (Nat.le_refl _) _).alloc (by simp) _
  have HRB : Hid (w1.heap[b]? = some (.cells #[.int .u8 0, .string ⟨#[]⟩, .slice none 0 0, .slice none 0 0] 25 (0, 0))) := Lib.hid (by rw [← hw1, ← hb, al_old _ _ (by simp), al_new])
  have HR : Hid (Rd w w1 (b + 1) ao n c l ⟨0, 0, 0⟩) := Lib.hid (by
    refine ⟨KA, by omega, ?_, hA, Nat.zero_le _⟩
    rw [← hw1, ← hb]
    have := al_new (w.alloc (.cells #[.int .u8 0, .string ⟨#[]⟩, .slice none 0 0, .slice none 0 0] 25)) (.cells #[.slice ao n c, .int .i64 0, .int .i64 0, .int .i64 0] 64)
    simpa using this)
  have HSZ : Hid (w1.heap.size = b + 2) := Lib.hid (by rw [← hw1, ← hb]; simp)
  have HLO : Hid (w.heap.size = b) := Lib.hid hb
  have HP := Lib.hid (part_any w (b + 1) ao n c l hB hT hW 40 (by omega) w1 ⟨0, 0, 0⟩ HR.out (by decide))
  rw [show (41 : Int) - ((40 : Nat) : Int) = 1 by decide] at HP
  have HE : Hid (Lx.exprE l = Lx.told l (Lx.leaf []) (Lx.part l 40 ⟨0, 0, 0⟩)) := Lib.hid rfl
  obtain ⟨⟨F, s2⟩, hz⟩ : ∃ z, Lx.part l 40 ⟨0, 0, 0⟩ = z := ⟨_, rfl⟩
  rw [hz] at HP HE
  dsimp only at HP
  have hE := HE.out
  unfold Lx.told at hE
  dsimp only at hE
  clear KA hA hB hT hW hz HE
  have HW1 := Lib.hid hw1
  clear hw1 hb HR
  have hE2 := Lib.hid hE
  clear hE
  go_enter Tryz.func10, Tryz.ntmps10
  go_upto_region 2 with fail
  rw [HW1.out, HLO.out]
  clear HW1
  go_wp2_with fail
  (with_reducible refine HP.out.mono ?_)
  rintro e w2 ⟨⟨⟨zo, znm, znu, zk⟩, zan, znn, znc, zaa, zac⟩, rfl, HR2, HG2, HX2⟩
  have HRB := Lib.hid (blk_stay HRB.out HG2.out (by omega))
  have HXL := Lib.hid HG2.out.size
  clear HP
  obtain ⟨w3, hw3⟩ : ∃ z, w2.alloc (.cells #[.int .u8 zo, .string znm, .slice zan znn znc, .slice zaa zk zac] 25) = z := ⟨_, rfl⟩
  obtain ⟨xb, hxb⟩ : ∃ z, w2.heap.size = z := ⟨_, rfl⟩
  have KA := Lib.hid (show Below w2.heap.size w2 w3 by rw [← hw3]; exact (Below.refl _ w2).alloc (Nat.le_refl _) _)
  have HXB : Hid (w3.heap[xb]? = some (.cells #[.int .u8 zo, .string znm, .slice zan znn znc, .slice zaa zk zac] 25 (0, 0))) := Lib.hid (by rw [← hw3, ← hxb, al_new])
  have HRB := Lib.hid ((KA.out.block b (Array.getElem?_eq_some_iff.1 HRB.out).1).trans HRB.out)
  have HR3 := Lib.hid (HR2.out.keep KA.out)
  have HXN : Hid (b + 2 ≤ xb) := Lib.hid (by have := HXL.out; have := HSZ.out; omega)
  have HF := Lib.hid (failed_any w w3 (b + 1) ao n c l s2 HR3.out)
  have HX3 := Lib.hid (HX2.out.sub (w' := only (frB w1.heap.size) w3) (only_sub (fun q e lt => ⟨e, KA.out.block q lt⟩)))
  obtain ⟨sf, hsf⟩ : ∃ z, Lx.failed l s2 = z := ⟨_, rfl⟩
  rw [hsf] at HF hE2
  clear HR2 HG2 HX2 HXL hsf HR3
  go_upto_region 3 with fail
  clear hw3 hxb
  go_wp2_with fail
  (with_reducible refine HF.out.mono ?_)
  rintro e w4 ⟨rfl, HR4, HG4⟩
  have HRB := Lib.hid (blk_stay HRB.out HG4.out (by omega))
  have HXB := Lib.hid (blk_stay HXB.out HG4.out (by have := HXN.out; omega))
  have HX4 := Lib.hid (HX3.out.sub (w' := only (frB w1.heap.size) w4) (only_sub (fun q e lt => ⟨e, HG4.out.block q lt (fun e' => by have := le_frB e; have := HSZ.out; cases e'; omega)⟩)))
  clear HX3 HG4 HF KA
  have d0 := cell_blk HRB.out 0
  have d1 := cell_blk HRB.out 1
  have d2 := cell_blk HRB.out 2
  have d3 := cell_blk HRB.out 3
  have g0 := blk_free HRB.out 0
  have g1 := blk_free HRB.out 1
  have g2 := blk_free HRB.out 2
  have g3 := blk_free HRB.out 3
  obtain ⟨_, c1, _, c3⟩ := HR4.out.cells
  have HBW : Hid (Below w.heap.size w w4) := Lib.hid HR4.out.bw
  by_cases hw : sf.wrong = 0
  · have HE : Hid (Lx.exprE l = (F, -1, 0)) := Lib.hid (by rw [hE2.out, if_pos hw])
    rw [show decide (sf.wrong ≠ 0) = false by simp [hw]]
    have x0 := cell_blk HXB.out 0
    have x1 := cell_blk HXB.out 1
    have x2 := cell_blk HXB.out 2
    have x3 := cell_blk HXB.out 3
    clear c1 c3 hw hE2 HR4
    go_wp2
    obtain ⟨wf, hwf⟩ : ∃ z, put4 w4 b (.int .u8 zo) (.string znm) (.slice zan znn znc) (.slice zaa zk zac) = z := ⟨_, rfl⟩
    have hwf' := hwf
    unfold put4 at hwf'
    rw [hwf']
    have XF := put4_on HRB.out (.int .u8 zo) (.string znm) (.slice zan znn znc) (.slice zaa zk zac)
    have g := put4_grown w4 b (.int .u8 zo) (.string znm) (.slice zan znn znc) (.slice zaa zk zac)
    rw [hwf] at g XF
    have r0 := cell_blk XF 0
    have r1 := cell_blk XF 1
    have r2 := cell_blk XF 2
    have r3 := cell_blk XF 3
    refine bodyPost_ret (v := .tuple #[.agg #[.int .u8 zo, .string znm, .slice zan znn znc, .slice zaa zk zac], .int .i64 (-1), .int .i64 0]) (by simp [results, Tryz.results10, go_sem, r0, r1, r2, r3]) rfl ⟨⟨⟨zo, znm, znu, zk⟩, zan, znn, znc, zaa, zac⟩, by rw [HE.out], Lib.hid ?_, Lib.hid ?_⟩
    · exact mbelow_grown HBW.out g (fun q e => by cases e; have := HLO.out; omega) HBW.out.size
    · rw [HE.out]
      refine HX4.out.sub (only_sub (fun q e lt => ⟨frB_le (by have := le_frB e; have := HSZ.out; have := HLO.out; omega), g.block q lt (fun e' => ?_)⟩))
      have := le_frB e
      have := HSZ.out
      cases e'
      omega
  · have HE : Hid (Lx.exprE l = (Lx.leaf [], (sf.at_ : Int), sf.wrong)) := Lib.hid (by rw [hE2.out, if_neg hw])
    rw [show decide (sf.wrong ≠ 0) = true by simp [hw]]
    obtain ⟨xa, hxa⟩ : ∃ z, sf.at_ = z := ⟨_, rfl⟩
    obtain ⟨xw, hxw⟩ : ∃ z, sf.wrong = z := ⟨_, rfl⟩
    rw [hxa] at c1 HE
    rw [hxw] at c3 HE
    clear hw hE2 HR4 hxa hxw
    go_upto_region 4 with fail
    go_region
    go_wp2
    obtain ⟨wf, hwf⟩ : ∃ z, put4 w4 b (.int .u8 0) (.string ⟨#[]⟩) (.slice none 0 0) (.slice none 0 0) = z := ⟨_, rfl⟩
    have hwf' := hwf
    unfold put4 at hwf'
    rw [hwf']
    have XF := put4_on HRB.out (.int .u8 0) (.string ⟨#[]⟩) (.slice none 0 0) (.slice none 0 0)
    have g := put4_grown w4 b (.int .u8 0) (.string ⟨#[]⟩) (.slice none 0 0) (.slice none 0 0)
    rw [hwf] at g XF
    have r0 := cell_blk XF 0
    have r1 := cell_blk XF 1
    have r2 := cell_blk XF 2
    have r3 := cell_blk XF 3
    have g : w4.grownBy wf.drew (some b) := ⟨g.os, g.tape, g.output, g.size, g.block⟩
    refine bodyPost_ret (v := .tuple #[.agg #[.int .u8 0, .string ⟨#[]⟩, .slice none 0 0, .slice none 0 0], .int .i64 (xa : Int), .int .i64 xw]) (by simp [results, Tryz.results10, go_sem, r0, r1, r2, r3]) rfl ⟨⟨⟨0, ⟨#[]⟩, [], 0⟩, none, 0, 0, none, 0⟩, by rw [HE.out], Lib.hid ?_, Lib.hid ?_⟩
    · exact mbelow_grown HBW.out g (fun q e => by cases e; have := HLO.out; omega) HBW.out.size
    · rw [HE.out]
      exact (ex_leaf' (only (frB w.heap.size) wf.drew) [] (Nat.zero_le _)).more (by omega)
end Go.Proofs.YtimjendkpjojoaaGreatDoor
