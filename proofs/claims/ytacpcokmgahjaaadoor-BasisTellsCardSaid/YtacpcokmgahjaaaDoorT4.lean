/- The document's own answer for layer 8: no such name. -/
import Derived.Test.YtacpcokmgahjaaaDoorT3
namespace Go.Proofs.YtacpcokmgahjaaaDoor
set_option linter.unusedVariables false
set_option linter.unusedSimpArgs false
open Go.ChangeShapes Go.WideShapes Go.ChangeAt Go.RowKit
set_option maxRecDepth 8000 in
set_option maxHeartbeats 4000000 in
theorem rform_miss (s : ByteArray) (hs : ∀ j, j < 6 → (s.toList == (nm j).toList) = false) (w : World) : Calls Tryd.prog 12 #[.string s] w fun e w' => FormNo 80 w e w' := by
  have t0 : (s.toList == [116, 105, 99, 107]) = false := by
    have h : (nm 0).toList = [116, 105, 99, 107] := by kernel_rfl
    rw [← h]; exact hs 0 (by decide)
  have t1 : (s.toList == [100, 97, 121]) = false := by
    have h : (nm 1).toList = [100, 97, 121] := by kernel_rfl
    rw [← h]; exact hs 1 (by decide)
  have t2 : (s.toList == [119, 101, 101, 107]) = false := by
    have h : (nm 2).toList = [119, 101, 101, 107] := by kernel_rfl
    rw [← h]; exact hs 2 (by decide)
  have t3 : (s.toList == [109, 111, 110, 116, 104]) = false := by
    have h : (nm 3).toList = [109, 111, 110, 116, 104] := by kernel_rfl
    rw [← h]; exact hs 3 (by decide)
  have t4 : (s.toList == [113, 117, 97, 114, 116, 101, 114]) = false := by
    have h : (nm 4).toList = [113, 117, 97, 114, 116, 101, 114] := by kernel_rfl
    rw [← h]; exact hs 4 (by decide)
  have t5 : (s.toList == [121, 101, 97, 114]) = false := by
    have h : (nm 5).toList = [121, 101, 97, 114] := by kernel_rfl
    rw [← h]; exact hs 5 (by decide)
  clear hs
  obtain ⟨ro, hro⟩ : ∃ ro, w.heap.size = ro := ⟨_, rfl⟩
  obtain ⟨wa, hwa⟩ : ∃ wa, w.alloc (.cells #[.int .i64 0, .int .i64 0, .slice none 0 0, .slice none 0 0] 29) = wa := ⟨_, rfl⟩
  obtain ⟨fb, hfb⟩ : ∃ z, wa.heap.size = z := ⟨_, rfl⟩
  obtain ⟨wb, hwb⟩ : ∃ z, wa.alloc (.cells #[.int .i64 146097, .int .i64 0, .slice none 0 0, .slice none 0 0] 29) = z := ⟨_, rfl⟩
  have hba : Below w.heap.size w wa := by rw [← hwa]; exact (Below.refl _ w).alloc (Nat.le_refl _) _
  have hza : wa.heap.size = ro + 1 := by rw [← hwa, ← hro]; simp
  have hra : wa.heap[ro]? = some (.cells #[.int .i64 0, .int .i64 0, .slice none 0 0, .slice none 0 0] 29 (0, 0)) := by rw [← hwa, ← hro, al_new]
  have kab : Below wa.heap.size wa wb := by rw [← hwb]; exact (Below.refl _ wa).alloc (Nat.le_refl _) _
  have hfc : wb.heap[fb]? = some (.cells #[.int .i64 146097, .int .i64 0, .slice none 0 0, .slice none 0 0] 29 (0, 0)) := by rw [← hwb, ← hfb, al_new]
  have HFM : Hid (Below w.heap.size w wb ∧ wb.heap[ro]? = some (.cells #[.int .i64 0, .int .i64 0, .slice none 0 0, .slice none 0 0] 29 (0, 0)) ∧ w.heap.size = ro ∧ fb = ro + 1) := Lib.hid ⟨hba.trans (kab.mono hba.size), (kab.block ro (by omega)).trans hra, hro, by omega⟩
  have HFC := Lib.hid hfc
  have c0 := cell_blk hfc 0
  have c1 := cell_blk hfc 1
  have c2 := cell_blk hfc 2
  have c3 := cell_blk hfc 3
  have f0 := blk_free hfc 0
  have f1 := blk_free hfc 1
  have f2 := blk_free hfc 2
  have f3 := blk_free hfc 3
  clear hba hza hra kab hfc
  go_enter Tryd.func12, Tryd.ntmps12
  go_upto_region 3 with fail
  clear hwa hfb hwb c0 c1 c2 c3 f0 f1 f2 f3
  have gf1 : wb.grownBy ((((wb.setCell ⟨fb, 1, none⟩ (.int .i64 0)).setCell ⟨fb, 2, none⟩ (.slice none 0 0)).setCell ⟨fb, 3, none⟩ (.slice none 0 0))) (some fb) := ((grow_cell wb ⟨fb, 1, none⟩ (.int .i64 0)).andThen (grow_cell _ ⟨fb, 2, none⟩ (.slice none 0 0)) (fun j e => .inr e)).andThen (grow_cell _ ⟨fb, 3, none⟩ (.slice none 0 0)) (fun j e => .inr e)
  generalize (((wb.setCell ⟨fb, 1, none⟩ (.int .i64 0)).setCell ⟨fb, 2, none⟩ (.slice none 0 0)).setCell ⟨fb, 3, none⟩ (.slice none 0 0)) = w1 at gf1 ⊢
  have HM : Hid (Below w.heap.size w w1 ∧ w1.heap[ro]? = some (.cells #[.int .i64 0, .int .i64 0, .slice none 0 0, .slice none 0 0] 29 (0, 0)) ∧ w.heap.size ≤ ro) := Lib.hid (by
    obtain ⟨h1, h2, h3, h4⟩ := HFM.out
    exact ⟨h1.grown gf1 h1.size (fun q e => by cases e; omega), (gf1.block ro (Array.getElem?_eq_some_iff.1 h2).1 (fun z => by cases z; omega)).trans h2, by omega⟩)
  have HR2 := Lib.hid HM.out.2.1
  clear gf1
  have r0 := cell_blk HR2.out 0
  have r1 := cell_blk HR2.out 1
  have r2 := cell_blk HR2.out 2
  have r3 := cell_blk HR2.out 3
  have f0 := blk_free HR2.out 0
  have f1 := blk_free HR2.out 1
  have f2 := blk_free HR2.out 2
  have f3 := blk_free HR2.out 3
  go_wp2_with fail
  have gf := grow_four w1 ro (.int .i64 0) (.int .i64 0) (.slice none 0 0) (.slice none 0 0)
  have hrs := blk_four HR2.out (.int .i64 0) (.int .i64 0) (.slice none 0 0) (.slice none 0 0)
  generalize (((w1.setCell ⟨ro, 0, none⟩ (.int .i64 0)).setCell ⟨ro, 1, none⟩ (.int .i64 0)).setCell ⟨ro, 2, none⟩ (.slice none 0 0)).setCell ⟨ro, 3, none⟩ (.slice none 0 0) = wf at gf hrs ⊢
  clear r0 r1 r2 r3 f0 f1 f2 f3
  have r0 : wf.cell? ⟨ro, 0, none⟩ = some (.int .i64 0) := cell_blk hrs 0
  have r1 : wf.cell? ⟨ro, 1, none⟩ = some (.int .i64 0) := cell_blk hrs 1
  have r2 : wf.cell? ⟨ro, 2, none⟩ = some (.slice none 0 0) := cell_blk hrs 2
  have r3 : wf.cell? ⟨ro, 3, none⟩ = some (.slice none 0 0) := cell_blk hrs 3
  have hb := HM.out.1.grown gf HM.out.1.size (fun q z => by cases z; exact HM.out.2.2)
  exact bodyPost_ret (v := .tuple #[.agg #[.int .i64 0, .int .i64 0, .slice none 0 0, .slice none 0 0], .int .i64 80]) (by simp [results, Tryd.results12, go_sem, r0, r1, r2, r3]) rfl ⟨rfl, hb⟩
theorem rform_hit (i : Nat) (hi : i < 6) (w : World) : Calls Tryd.prog 12 #[.string (nm i)] w fun e w' => RYes i w e w' := by
  match i, hi with
  | 0, _ => exact rform_tick w
  | 1, _ => exact rform_day w
  | 2, _ => exact rform_week w
  | 3, _ => exact rform_month w
  | 4, _ => exact rform_quarter w
  | 5, _ => exact rform_year w
end Go.Proofs.YtacpcokmgahjaaaDoor
