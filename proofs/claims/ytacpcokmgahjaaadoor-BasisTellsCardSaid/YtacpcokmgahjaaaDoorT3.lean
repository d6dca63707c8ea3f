/- The document's own answer for layer 8: Form. -/
import Derived.Test.YtacpcokmgahjaaaDoorT2
namespace Go.Proofs.YtacpcokmgahjaaaDoor
set_option linter.unusedVariables false
set_option linter.unusedSimpArgs false
open Go.ChangeShapes Go.WideShapes Go.ChangeAt Go.RowKit
/-- What the document's own answer tells of a name. -/
def RYes (i : Nat) (w : World) (e : Ending) (w' : World) : Prop := ∃ (co : Option Addr) (cc : Nat) (oo : Option Addr) (oc : Nat), e = .returned (.tuple #[.agg #[.int .i64 (bP i), .int .i64 (bN i : Int), .slice co (bN i) cc, .slice oo 0 oc], .int .i64 0]) ∧ Hid (CoAt w' co (bN i) cc (bC i) ∧ OdAt w' oo 0 oc []) ∧ Hid (Below w.heap.size w w')
set_option maxRecDepth 8000 in
set_option maxHeartbeats 4000000 in
theorem rform_tick (w : World) : Calls Tryd.prog 12 #[.string ⟨#[116, 105, 99, 107]⟩] w fun e w' => RYes 0 w e w' := by
  obtain ⟨ro, hro⟩ : ∃ ro, w.heap.size = ro := ⟨_, rfl⟩
  obtain ⟨wa, hwa⟩ : ∃ wa, w.alloc (.cells #[.int .i64 0, .int .i64 0, .slice none 0 0, .slice none 0 0] 29) = wa := ⟨_, rfl⟩
  obtain ⟨fb, hfb⟩ : ∃ z, wa.heap.size = z := ⟨_, rfl⟩
  obtain ⟨wb, hwb⟩ : ∃ z, wa.alloc (.cells #[.int .i64 146097, .int .i64 0, .slice none 0 0, .slice none 0 0] 29) = z := ⟨_, rfl⟩
  have hba : Below w.heap.size w wa := by rw [← hwa]; exact (Below.refl _ w).alloc (Nat.le_refl _) _
  have hza : wa.heap.size = ro + 1 := by rw [← hwa, ← hro]; simp
  have hra : wa.heap[ro]? = some (.cells #[.int .i64 0, .int .i64 0, .slice none 0 0, .slice none 0 0] 29 (0, 0)) := by rw [← hwa, ← hro, al_new]
  have kab : Below wa.heap.size wa wb := by rw [← hwb]; exact (Below.refl _ wa).alloc (Nat.le_refl _) _
  have hfc : wb.heap[fb]? = some (.cells #[.int .i64 146097, .int .i64 0, .slice none 0 0, .slice none 0 0] 29 (0, 0)) := by rw [← hwb, ← hfb, al_new]
  have HFM : Hid (Below w.heap.size w wb ∧ wb.heap[ro]? = some (.cells #[.int .i64 0, .int .i64 0, .slice none 0 0, .slice none 0 0] 29 (0, 0)) ∧ w.heap.size = ro ∧ fb = ro + 1) := Lib.hid ⟨hba.trans (kab.mono hba.size), (kab.block ro (by omega)).trans hra, hro, by omega⟩
  have HFC := Lib.hid hfc
  have c0 := cell_blk hfc 0
  have c1 := cell_blk hfc 1
  have c2 := cell_blk hfc 2
  have c3 := cell_blk hfc 3
  have f0 := blk_free hfc 0
  have f1 := blk_free hfc 1
  have f2 := blk_free hfc 2
  have f3 := blk_free hfc 3
  clear hba hza hra kab hfc
  go_enter Tryd.func12, Tryd.ntmps12
  go_upto_region 16 with fail
  clear hwa hfb hwb c0 c1 c2 c3 f0 f1 f2 f3
  have hb1 : ((((((wb.setCell ⟨fb, 1, none⟩ (.int .i64 0)).setCell ⟨fb, 2, none⟩ (.slice none 0 0)).setCell ⟨fb, 3, none⟩ (.slice none 0 0)).setCell ⟨fb, 0, none⟩ (.int .i64 1)).setCell ⟨fb, 1, none⟩ (.int .i64 1))).heap[fb]? = some (.cells #[.int .i64 1, .int .i64 1, .slice none 0 0, .slice none 0 0] 29 (0, 0)) := by
    rw [set_block (set_block (set_block (set_block (set_block (HFC.out) 1 (.int .i64 0)) 2 (.slice none 0 0)) 3 (.slice none 0 0)) 0 (.int .i64 1)) 1 (.int .i64 1)]; rfl
  have gf : wb.grownBy ((((((wb.setCell ⟨fb, 1, none⟩ (.int .i64 0)).setCell ⟨fb, 2, none⟩ (.slice none 0 0)).setCell ⟨fb, 3, none⟩ (.slice none 0 0)).setCell ⟨fb, 0, none⟩ (.int .i64 1)).setCell ⟨fb, 1, none⟩ (.int .i64 1))) (some fb) := (grow_four' wb fb 1 2 3 0 (.int .i64 0) (.slice none 0 0) (.slice none 0 0) (.int .i64 1)).andThen (grow_cell _ ⟨fb, 1, none⟩ (.int .i64 1)) (fun j e => .inr e)
  generalize (((((wb.setCell ⟨fb, 1, none⟩ (.int .i64 0)).setCell ⟨fb, 2, none⟩ (.slice none 0 0)).setCell ⟨fb, 3, none⟩ (.slice none 0 0)).setCell ⟨fb, 0, none⟩ (.int .i64 1)).setCell ⟨fb, 1, none⟩ (.int .i64 1)) = w1 at hb1 gf ⊢
  have HM : Hid (Fm w w1 ro fb 1 1 (.slice none 0 0) (.slice none 0 0) 0 []) := Lib.hid (by
    obtain ⟨h1, h2, h3, h4⟩ := HFM.out
    exact ⟨h1.grown gf h1.size (fun q e => by cases e; omega), by omega, by omega, by omega, (gf.block ro (Array.getElem?_eq_some_iff.1 h2).1 (fun z => by cases z; omega)).trans h2, hb1, CoOwn.nil _ _⟩)
  obtain ⟨C, hC⟩ : ∃ z, bC 0 = z := ⟨_, rfl⟩
  have HCB : Hid (∀ j : Nat, j < 1 → ∃ A B : Int, C[j]? = some [(A, B)] ∧ ∀ W, Calls Tryd.prog 24 #[.string ⟨#[116, 105, 99, 107]⟩, .int .i64 (j : Int)] W fun e w' => e = .returned (.tuple #[.int .i64 A, .int .i64 B, .bool true]) ∧ W = w') := Lib.hid (fun j hj => ⟨_, _, by rw [← hC]; exact bC_at 0 j hj, fun W => gra_tick j W (by omega) (by omega)⟩)
  have HCL : Hid (C.length = 1 ∧ C = bC 0) := Lib.hid ⟨by rw [← hC]; exact bC_len 0, hC.symm⟩
  clear hb1 gf HFC hC
  go_loopw [5, 6, 7, 8] (fun ii s6 s7 s8 wr => ∃ (j : Nat) (v : Value), j ≤ 1 ∧ ii = .int .i64 j ∧ Hid (Fm w wr ro fb 1 1 v v j (C.take j))) (fun ii s6 s7 s8 _ => 1 - (intOf ii).toNat)
  case atStart => exact ⟨0, _, Nat.zero_le _, rfl, HM⟩
  case round =>
    clear HM
    obtain ⟨j, v, hj, rfl, HM⟩ := hrel
    have i0 : (0 : Int) ≤ (j : Int) := by omega
    have e1 := cell_blk HM.out.fbx 1
    by_cases jlt : j < 1
    · have i1 : (j : Int) < 1 := by omega
      have e2 := cell_blk HM.out.fbx 2
      obtain ⟨A, B, hAB, hG⟩ := HCB.out j jlt
      have HG := Lib.hid (hG wr)
      have HAB := Lib.hid hAB
      clear hAB hG
      go_wp2_with fail
      (with_reducible refine HG.out.mono ?_)
      rintro e w5 ⟨rfl, rfl⟩
      have HN := Lib.hid (show j ≤ 4800 by omega)
      go_wp2_with (at_builtin; go_loud (refine appC rfl _ _ rfl v j _ rfl HM.out A B rfl HN.out ?_); intro a8 c8 w8 HE8; have g2 := cell_blk HE8.fbx 2; have gz := blk_free HE8.fbx 2; have HE8 := Lib.hid HE8)
      have HM2 := Lib.hid HE8.out.put
      have e : C.take (j + 1) = C.take j ++ [[(A, B)]] := by
        have hl : j < C.length := by have := HCL.out.1; omega
        have := HAB.out
        rw [List.getElem?_eq_getElem hl] at this
        rw [List.take_succ_eq_append_getElem hl, Option.some.inj this]
      rw [← e] at HM2
      clear e HE8 g2 gz
      refine ⟨⟨j + 1, _, by omega, by go_num, HM2⟩, ?_⟩
      simp [intOf]; omega
    · obtain rfl : j = 1 := by omega
      have hown : CoOwn wr w.heap.size v 1 (bC 0) := by
        have h := HM.out.own
        rw [← HCL.out.2]
        rwa [List.take_of_length_le (Nat.le_of_eq HCL.out.1)] at h
      obtain ⟨a3, c3, rfl, _⟩ := hown.vs
      have HOW := Lib.hid hown
      have HR2 := Lib.hid HM.out.res
      have e0 := cell_blk HM.out.fbx 0
      have e2 := cell_blk HM.out.fbx 2
      have e3 := cell_blk HM.out.fbx 3
      clear hown HCB HCL
      have r0 := cell_blk HR2.out 0
      have r1 := cell_blk HR2.out 1
      have r2 := cell_blk HR2.out 2
      have r3 := cell_blk HR2.out 3
      have f0 := blk_free HR2.out 0
      have f1 := blk_free HR2.out 1
      have f2 := blk_free HR2.out 2
      have f3 := blk_free HR2.out 3
      go_wp2_with fail
      have gf := grow_four wr ro (.int .i64 1) (.int .i64 1) (.slice a3 1 c3) (.slice none 0 0)
      have hrs := blk_four HR2.out (.int .i64 1) (.int .i64 1) (.slice a3 1 c3) (.slice none 0 0)
      generalize (((wr.setCell ⟨ro, 0, none⟩ (.int .i64 1)).setCell ⟨ro, 1, none⟩ (.int .i64 1)).setCell ⟨ro, 2, none⟩ (.slice a3 1 c3)).setCell ⟨ro, 3, none⟩ (.slice none 0 0) = wf at gf hrs ⊢
      clear r0 r1 r2 r3 f0 f1 f2 f3
      have r0 : wf.cell? ⟨ro, 0, none⟩ = some (.int .i64 1) := cell_blk hrs 0
      have r1 : wf.cell? ⟨ro, 1, none⟩ = some (.int .i64 1) := cell_blk hrs 1
      have r2 : wf.cell? ⟨ro, 2, none⟩ = some (.slice a3 1 c3) := cell_blk hrs 2
      have r3 : wf.cell? ⟨ro, 3, none⟩ = some (.slice none 0 0) := cell_blk hrs 3
      have hb := HM.out.bw.grown gf HM.out.bw.size (fun q z => by cases z; exact HM.out.lo)
      have ho := HOW.out.grown gf (fun q z => by cases z; exact .inr ⟨_, 29, HM.out.res, by decide⟩) (fun q z => by cases z; exact .inr ⟨_, 29, HM.out.res, by decide⟩)
      obtain ⟨a4, c4, he, hco⟩ := ho.vs
      cases he
      exact bodyPost_ret (v := .tuple #[.agg #[.int .i64 1, .int .i64 1, .slice a3 1 c3, .slice none 0 0], .int .i64 0]) (by simp [results, Tryd.results12, go_sem, r0, r1, r2, r3]) rfl ⟨a3, c3, none, 0, rfl, Lib.hid ⟨hco, ⟨rfl, Nat.le_refl _, Nat.zero_le _, fun _ => ⟨rfl, rfl⟩, fun h => absurd h (Nat.lt_irrefl _)⟩⟩, Lib.hid hb⟩
set_option maxRecDepth 8000 in
set_option maxHeartbeats 4000000 in
theorem rform_day (w : World) : Calls Tryd.prog 12 #[.string ⟨#[100, 97, 121]⟩] w fun e w' => RYes 1 w e w' := by
  have t0 : ((⟨#[100, 97, 121]⟩ : ByteArray) == ⟨#[116, 105, 99, 107]⟩) = false := by decide
  obtain ⟨ro, hro⟩ : ∃ ro, w.heap.size = ro := ⟨_, rfl⟩
  obtain ⟨wa, hwa⟩ : ∃ wa, w.alloc (.cells #[.int .i64 0, .int .i64 0, .slice none 0 0, .slice none 0 0] 29) = wa := ⟨_, rfl⟩
  obtain ⟨fb, hfb⟩ : ∃ z, wa.heap.size = z := ⟨_, rfl⟩
  obtain ⟨wb, hwb⟩ : ∃ z, wa.alloc (.cells #[.int .i64 146097, .int .i64 0, .slice none 0 0, .slice none 0 0] 29) = z := ⟨_, rfl⟩
  have hba : Below w.heap.size w wa := by rw [← hwa]; exact (Below.refl _ w).alloc (Nat.le_refl _) _
  have hza : wa.heap.size = ro + 1 := by rw [← hwa, ← hro]; simp
  have hra : wa.heap[ro]? = some (.cells #[.int .i64 0, .int .i64 0, .slice none 0 0, .slice none 0 0] 29 (0, 0)) := by rw [← hwa, ← hro, al_new]
  have kab : Below wa.heap.size wa wb := by rw [← hwb]; exact (Below.refl _ wa).alloc (Nat.le_refl _) _
  have hfc : wb.heap[fb]? = some (.cells #[.int .i64 146097, .int .i64 0, .slice none 0 0, .slice none 0 0] 29 (0, 0)) := by rw [← hwb, ← hfb, al_new]
  have HFM : Hid (Below w.heap.size w wb ∧ wb.heap[ro]? = some (.cells #[.int .i64 0, .int .i64 0, .slice none 0 0, .slice none 0 0] 29 (0, 0)) ∧ w.heap.size = ro ∧ fb = ro + 1) := Lib.hid ⟨hba.trans (kab.mono hba.size), (kab.block ro (by omega)).trans hra, hro, by omega⟩
  have HFC := Lib.hid hfc
  have c0 := cell_blk hfc 0
  have c1 := cell_blk hfc 1
  have c2 := cell_blk hfc 2
  have c3 := cell_blk hfc 3
  have f0 := blk_free hfc 0
  have f1 := blk_free hfc 1
  have f2 := blk_free hfc 2
  have f3 := blk_free hfc 3
  clear hba hza hra kab hfc
  go_enter Tryd.func12, Tryd.ntmps12
  go_upto_region 16 with fail
  clear hwa hfb hwb c0 c1 c2 c3 f0 f1 f2 f3
  have hb1 : ((((((wb.setCell ⟨fb, 1, none⟩ (.int .i64 0)).setCell ⟨fb, 2, none⟩ (.slice none 0 0)).setCell ⟨fb, 3, none⟩ (.slice none 0 0)).setCell ⟨fb, 0, none⟩ (.int .i64 1)).setCell ⟨fb, 1, none⟩ (.int .i64 1))).heap[fb]? = some (.cells #[.int .i64 1, .int .i64 1, .slice none 0 0, .slice none 0 0] 29 (0, 0)) := by
    rw [set_block (set_block (set_block (set_block (set_block (HFC.out) 1 (.int .i64 0)) 2 (.slice none 0 0)) 3 (.slice none 0 0)) 0 (.int .i64 1)) 1 (.int .i64 1)]; rfl
  have gf : wb.grownBy ((((((wb.setCell ⟨fb, 1, none⟩ (.int .i64 0)).setCell ⟨fb, 2, none⟩ (.slice none 0 0)).setCell ⟨fb, 3, none⟩ (.slice none 0 0)).setCell ⟨fb, 0, none⟩ (.int .i64 1)).setCell ⟨fb, 1, none⟩ (.int .i64 1))) (some fb) := (grow_four' wb fb 1 2 3 0 (.int .i64 0) (.slice none 0 0) (.slice none 0 0) (.int .i64 1)).andThen (grow_cell _ ⟨fb, 1, none⟩ (.int .i64 1)) (fun j e => .inr e)
  generalize (((((wb.setCell ⟨fb, 1, none⟩ (.int .i64 0)).setCell ⟨fb, 2, none⟩ (.slice none 0 0)).setCell ⟨fb, 3, none⟩ (.slice none 0 0)).setCell ⟨fb, 0, none⟩ (.int .i64 1)).setCell ⟨fb, 1, none⟩ (.int .i64 1)) = w1 at hb1 gf ⊢
  have HM : Hid (Fm w w1 ro fb 1 1 (.slice none 0 0) (.slice none 0 0) 0 []) := Lib.hid (by
    obtain ⟨h1, h2, h3, h4⟩ := HFM.out
    exact ⟨h1.grown gf h1.size (fun q e => by cases e; omega), by omega, by omega, by omega, (gf.block ro (Array.getElem?_eq_some_iff.1 h2).1 (fun z => by cases z; omega)).trans h2, hb1, CoOwn.nil _ _⟩)
  obtain ⟨C, hC⟩ : ∃ z, bC 1 = z := ⟨_, rfl⟩
  have HCB : Hid (∀ j : Nat, j < 1 → ∃ A B : Int, C[j]? = some [(A, B)] ∧ ∀ W, Calls Tryd.prog 24 #[.string ⟨#[100, 97, 121]⟩, .int .i64 (j : Int)] W fun e w' => e = .returned (.tuple #[.int .i64 A, .int .i64 B, .bool true]) ∧ W = w') := Lib.hid (fun j hj => ⟨_, _, by rw [← hC]; exact bC_at 1 j hj, fun W => gra_day j W (by omega) (by omega)⟩)
  have HCL : Hid (C.length = 1 ∧ C = bC 1) := Lib.hid ⟨by rw [← hC]; exact bC_len 1, hC.symm⟩
  clear hb1 gf HFC hC
  go_loopw [5, 6, 7, 8] (fun ii s6 s7 s8 wr => ∃ (j : Nat) (v : Value), j ≤ 1 ∧ ii = .int .i64 j ∧ Hid (Fm w wr ro fb 1 1 v v j (C.take j))) (fun ii s6 s7 s8 _ => 1 - (intOf ii).toNat)
  case atStart => exact ⟨0, _, Nat.zero_le _, rfl, HM⟩
  case round =>
    clear HM
    obtain ⟨j, v, hj, rfl, HM⟩ := hrel
    have i0 : (0 : Int) ≤ (j : Int) := by omega
    have e1 := cell_blk HM.out.fbx 1
    by_cases jlt : j < 1
    · have i1 : (j : Int) < 1 := by omega
      have e2 := cell_blk HM.out.fbx 2
      obtain ⟨A, B, hAB, hG⟩ := HCB.out j jlt
      have HG := Lib.hid (hG wr)
      have HAB := Lib.hid hAB
      clear hAB hG
      go_wp2_with fail
      (with_reducible refine HG.out.mono ?_)
      rintro e w5 ⟨rfl, rfl⟩
      have HN := Lib.hid (show j ≤ 4800 by omega)
      go_wp2_with (at_builtin; go_loud (refine appC rfl _ _ rfl v j _ rfl HM.out A B rfl HN.out ?_); intro a8 c8 w8 HE8; have g2 := cell_blk HE8.fbx 2; have gz := blk_free HE8.fbx 2; have HE8 := Lib.hid HE8)
      have HM2 := Lib.hid HE8.out.put
      have e : C.take (j + 1) = C.take j ++ [[(A, B)]] := by
        have hl : j < C.length := by have := HCL.out.1; omega
        have := HAB.out
        rw [List.getElem?_eq_getElem hl] at this
        rw [List.take_succ_eq_append_getElem hl, Option.some.inj this]
      rw [← e] at HM2
      clear e HE8 g2 gz
      refine ⟨⟨j + 1, _, by omega, by go_num, HM2⟩, ?_⟩
      simp [intOf]; omega
    · obtain rfl : j = 1 := by omega
      have hown : CoOwn wr w.heap.size v 1 (bC 1) := by
        have h := HM.out.own
        rw [← HCL.out.2]
        rwa [List.take_of_length_le (Nat.le_of_eq HCL.out.1)] at h
      obtain ⟨a3, c3, rfl, _⟩ := hown.vs
      have HOW := Lib.hid hown
      have HR2 := Lib.hid HM.out.res
      have e0 := cell_blk HM.out.fbx 0
      have e2 := cell_blk HM.out.fbx 2
      have e3 := cell_blk HM.out.fbx 3
      clear hown HCB HCL
      have r0 := cell_blk HR2.out 0
      have r1 := cell_blk HR2.out 1
      have r2 := cell_blk HR2.out 2
      have r3 := cell_blk HR2.out 3
      have f0 := blk_free HR2.out 0
      have f1 := blk_free HR2.out 1
      have f2 := blk_free HR2.out 2
      have f3 := blk_free HR2.out 3
      go_wp2_with fail
      have gf := grow_four wr ro (.int .i64 1) (.int .i64 1) (.slice a3 1 c3) (.slice none 0 0)
      have hrs := blk_four HR2.out (.int .i64 1) (.int .i64 1) (.slice a3 1 c3) (.slice none 0 0)
      generalize (((wr.setCell ⟨ro, 0, none⟩ (.int .i64 1)).setCell ⟨ro, 1, none⟩ (.int .i64 1)).setCell ⟨ro, 2, none⟩ (.slice a3 1 c3)).setCell ⟨ro, 3, none⟩ (.slice none 0 0) = wf at gf hrs ⊢
      clear r0 r1 r2 r3 f0 f1 f2 f3
      have r0 : wf.cell? ⟨ro, 0, none⟩ = some (.int .i64 1) := cell_blk hrs 0
      have r1 : wf.cell? ⟨ro, 1, none⟩ = some (.int .i64 1) := cell_blk hrs 1
      have r2 : wf.cell? ⟨ro, 2, none⟩ = some (.slice a3 1 c3) := cell_blk hrs 2
      have r3 : wf.cell? ⟨ro, 3, none⟩ = some (.slice none 0 0) := cell_blk hrs 3
      have hb := HM.out.bw.grown gf HM.out.bw.size (fun q z => by cases z; exact HM.out.lo)
      have ho := HOW.out.grown gf (fun q z => by cases z; exact .inr ⟨_, 29, HM.out.res, by decide⟩) (fun q z => by cases z; exact .inr ⟨_, 29, HM.out.res, by decide⟩)
      obtain ⟨a4, c4, he, hco⟩ := ho.vs
      cases he
      exact bodyPost_ret (v := .tuple #[.agg #[.int .i64 1, .int .i64 1, .slice a3 1 c3, .slice none 0 0], .int .i64 0]) (by simp [results, Tryd.results12, go_sem, r0, r1, r2, r3]) rfl ⟨a3, c3, none, 0, rfl, Lib.hid ⟨hco, ⟨rfl, Nat.le_refl _, Nat.zero_le _, fun _ => ⟨rfl, rfl⟩, fun h => absurd h (Nat.lt_irrefl _)⟩⟩, Lib.hid hb⟩
set_option maxRecDepth 8000 in
set_option maxHeartbeats 4000000 in
theorem rform_week (w : World) : Calls Tryd.prog 12 #[.string ⟨#[119, 101, 101, 107]⟩] w fun e w' => RYes 2 w e w' := by
  have t0 : ((⟨#[119, 101, 101, 107]⟩ : ByteArray) == ⟨#[116, 105, 99, 107]⟩) = false := by decide
  have t1 : ((⟨#[119, 101, 101, 107]⟩ : ByteArray) == ⟨#[100, 97, 121]⟩) = false := by decide
  obtain ⟨ro, hro⟩ : ∃ ro, w.heap.size = ro := ⟨_, rfl⟩
  obtain ⟨wa, hwa⟩ : ∃ wa, w.alloc (.cells #[.int .i64 0, .int .i64 0, .slice none 0 0, .slice none 0 0] 29) = wa := ⟨_, rfl⟩
  obtain ⟨fb, hfb⟩ : ∃ z, wa.heap.size = z := ⟨_, rfl⟩
  obtain ⟨wb, hwb⟩ : ∃ z, wa.alloc (.cells #[.int .i64 146097, .int .i64 0, .slice none 0 0, .slice none 0 0] 29) = z := ⟨_, rfl⟩
  have hba : Below w.heap.size w wa := by rw [← hwa]; exact (Below.refl _ w).alloc (Nat.le_refl _) _
  have hza : wa.heap.size = ro + 1 := by rw [← hwa, ← hro]; simp
  have hra : wa.heap[ro]? = some (.cells #[.int .i64 0, .int .i64 0, .slice none 0 0, .slice none 0 0] 29 (0, 0)) := by rw [← hwa, ← hro, al_new]
  have kab : Below wa.heap.size wa wb := by rw [← hwb]; exact (Below.refl _ wa).alloc (Nat.le_refl _) _
  have hfc : wb.heap[fb]? = some (.cells #[.int .i64 146097, .int .i64 0, .slice none 0 0, .slice none 0 0] 29 (0, 0)) := by rw [← hwb, ← hfb, al_new]
  have HFM : Hid (Below w.heap.size w wb ∧ wb.heap[ro]? = some (.cells #[.int .i64 0, .int .i64 0, .slice none 0 0, .slice none 0 0] 29 (0, 0)) ∧ w.heap.size = ro ∧ fb = ro + 1) := Lib.hid ⟨hba.trans (kab.mono hba.size), (kab.block ro (by omega)).trans hra, hro, by omega⟩
  have HFC := Lib.hid hfc
  have c0 := cell_blk hfc 0
  have c1 := cell_blk hfc 1
  have c2 := cell_blk hfc 2
  have c3 := cell_blk hfc 3
  have f0 := blk_free hfc 0
  have f1 := blk_free hfc 1
  have f2 := blk_free hfc 2
  have f3 := blk_free hfc 3
  clear hba hza hra kab hfc
  go_enter Tryd.func12, Tryd.ntmps12
  go_upto_region 16 with fail
  clear hwa hfb hwb c0 c1 c2 c3 f0 f1 f2 f3
  have hb1 : ((((((wb.setCell ⟨fb, 1, none⟩ (.int .i64 0)).setCell ⟨fb, 2, none⟩ (.slice none 0 0)).setCell ⟨fb, 3, none⟩ (.slice none 0 0)).setCell ⟨fb, 0, none⟩ (.int .i64 7)).setCell ⟨fb, 1, none⟩ (.int .i64 1))).heap[fb]? = some (.cells #[.int .i64 7, .int .i64 1, .slice none 0 0, .slice none 0 0] 29 (0, 0)) := by
    rw [set_block (set_block (set_block (set_block (set_block (HFC.out) 1 (.int .i64 0)) 2 (.slice none 0 0)) 3 (.slice none 0 0)) 0 (.int .i64 7)) 1 (.int .i64 1)]; rfl
  have gf : wb.grownBy ((((((wb.setCell ⟨fb, 1, none⟩ (.int .i64 0)).setCell ⟨fb, 2, none⟩ (.slice none 0 0)).setCell ⟨fb, 3, none⟩ (.slice none 0 0)).setCell ⟨fb, 0, none⟩ (.int .i64 7)).setCell ⟨fb, 1, none⟩ (.int .i64 1))) (some fb) := (grow_four' wb fb 1 2 3 0 (.int .i64 0) (.slice none 0 0) (.slice none 0 0) (.int .i64 7)).andThen (grow_cell _ ⟨fb, 1, none⟩ (.int .i64 1)) (fun j e => .inr e)
  generalize (((((wb.setCell ⟨fb, 1, none⟩ (.int .i64 0)).setCell ⟨fb, 2, none⟩ (.slice none 0 0)).setCell ⟨fb, 3, none⟩ (.slice none 0 0)).setCell ⟨fb, 0, none⟩ (.int .i64 7)).setCell ⟨fb, 1, none⟩ (.int .i64 1)) = w1 at hb1 gf ⊢
  have HM : Hid (Fm w w1 ro fb 7 1 (.slice none 0 0) (.slice none 0 0) 0 []) := Lib.hid (by
    obtain ⟨h1, h2, h3, h4⟩ := HFM.out
    exact ⟨h1.grown gf h1.size (fun q e => by cases e; omega), by omega, by omega, by omega, (gf.block ro (Array.getElem?_eq_some_iff.1 h2).1 (fun z => by cases z; omega)).trans h2, hb1, CoOwn.nil _ _⟩)
  obtain ⟨C, hC⟩ : ∃ z, bC 2 = z := ⟨_, rfl⟩
  have HCB : Hid (∀ j : Nat, j < 1 → ∃ A B : Int, C[j]? = some [(A, B)] ∧ ∀ W, Calls Tryd.prog 24 #[.string ⟨#[119, 101, 101, 107]⟩, .int .i64 (j : Int)] W fun e w' => e = .returned (.tuple #[.int .i64 A, .int .i64 B, .bool true]) ∧ W = w') := Lib.hid (fun j hj => ⟨_, _, by rw [← hC]; exact bC_at 2 j hj, fun W => gra_week j W (by omega) (by omega)⟩)
  have HCL : Hid (C.length = 1 ∧ C = bC 2) := Lib.hid ⟨by rw [← hC]; exact bC_len 2, hC.symm⟩
  clear hb1 gf HFC hC
  go_loopw [5, 6, 7, 8] (fun ii s6 s7 s8 wr => ∃ (j : Nat) (v : Value), j ≤ 1 ∧ ii = .int .i64 j ∧ Hid (Fm w wr ro fb 7 1 v v j (C.take j))) (fun ii s6 s7 s8 _ => 1 - (intOf ii).toNat)
  case atStart => exact ⟨0, _, Nat.zero_le _, rfl, HM⟩
  case round =>
    clear HM
    obtain ⟨j, v, hj, rfl, HM⟩ := hrel
    have i0 : (0 : Int) ≤ (j : Int) := by omega
    have e1 := cell_blk HM.out.fbx 1
    by_cases jlt : j < 1
    · have i1 : (j : Int) < 1 := by omega
      have e2 := cell_blk HM.out.fbx 2
      obtain ⟨A, B, hAB, hG⟩ := HCB.out j jlt
      have HG := Lib.hid (hG wr)
      have HAB := Lib.hid hAB
      clear hAB hG
      go_wp2_with fail
      (with_reducible refine HG.out.mono ?_)
      rintro e w5 ⟨rfl, rfl⟩
      have HN := Lib.hid (show j ≤ 4800 by omega)
      go_wp2_with (at_builtin; go_loud (refine appC rfl _ _ rfl v j _ rfl HM.out A B rfl HN.out ?_); intro a8 c8 w8 HE8; have g2 := cell_blk HE8.fbx 2; have gz := blk_free HE8.fbx 2; have HE8 := Lib.hid HE8)
      have HM2 := Lib.hid HE8.out.put
      have e : C.take (j + 1) = C.take j ++ [[(A, B)]] := by
        have hl : j < C.length := by have := HCL.out.1; omega
        have := HAB.out
        rw [List.getElem?_eq_getElem hl] at this
        rw [List.take_succ_eq_append_getElem hl, Option.some.inj this]
      rw [← e] at HM2
      clear e HE8 g2 gz
      refine ⟨⟨j + 1, _, by omega, by go_num, HM2⟩, ?_⟩
      simp [intOf]; omega
    · obtain rfl : j = 1 := by omega
      have hown : CoOwn wr w.heap.size v 1 (bC 2) := by
        have h := HM.out.own
        rw [← HCL.out.2]
        rwa [List.take_of_length_le (Nat.le_of_eq HCL.out.1)] at h
      obtain ⟨a3, c3, rfl, _⟩ := hown.vs
      have HOW := Lib.hid hown
      have HR2 := Lib.hid HM.out.res
      have e0 := cell_blk HM.out.fbx 0
      have e2 := cell_blk HM.out.fbx 2
      have e3 := cell_blk HM.out.fbx 3
      clear hown HCB HCL
      have r0 := cell_blk HR2.out 0
      have r1 := cell_blk HR2.out 1
      have r2 := cell_blk HR2.out 2
      have r3 := cell_blk HR2.out 3
      have f0 := blk_free HR2.out 0
      have f1 := blk_free HR2.out 1
      have f2 := blk_free HR2.out 2
      have f3 := blk_free HR2.out 3
      go_wp2_with fail
      have gf := grow_four wr ro (.int .i64 7) (.int .i64 1) (.slice a3 1 c3) (.slice none 0 0)
      have hrs := blk_four HR2.out (.int .i64 7) (.int .i64 1) (.slice a3 1 c3) (.slice none 0 0)
      generalize (((wr.setCell ⟨ro, 0, none⟩ (.int .i64 7)).setCell ⟨ro, 1, none⟩ (.int .i64 1)).setCell ⟨ro, 2, none⟩ (.slice a3 1 c3)).setCell ⟨ro, 3, none⟩ (.slice none 0 0) = wf at gf hrs ⊢
      clear r0 r1 r2 r3 f0 f1 f2 f3
      have r0 : wf.cell? ⟨ro, 0, none⟩ = some (.int .i64 7) := cell_blk hrs 0
      have r1 : wf.cell? ⟨ro, 1, none⟩ = some (.int .i64 1) := cell_blk hrs 1
      have r2 : wf.cell? ⟨ro, 2, none⟩ = some (.slice a3 1 c3) := cell_blk hrs 2
      have r3 : wf.cell? ⟨ro, 3, none⟩ = some (.slice none 0 0) := cell_blk hrs 3
      have hb := HM.out.bw.grown gf HM.out.bw.size (fun q z => by cases z; exact HM.out.lo)
      have ho := HOW.out.grown gf (fun q z => by cases z; exact .inr ⟨_, 29, HM.out.res, by decide⟩) (fun q z => by cases z; exact .inr ⟨_, 29, HM.out.res, by decide⟩)
      obtain ⟨a4, c4, he, hco⟩ := ho.vs
      cases he
      exact bodyPost_ret (v := .tuple #[.agg #[.int .i64 7, .int .i64 1, .slice a3 1 c3, .slice none 0 0], .int .i64 0]) (by simp [results, Tryd.results12, go_sem, r0, r1, r2, r3]) rfl ⟨a3, c3, none, 0, rfl, Lib.hid ⟨hco, ⟨rfl, Nat.le_refl _, Nat.zero_le _, fun _ => ⟨rfl, rfl⟩, fun h => absurd h (Nat.lt_irrefl _)⟩⟩, Lib.hid hb⟩
set_option maxRecDepth 8000 in
set_option maxHeartbeats 4000000 in
theorem rform_month (w : World) : Calls Tryd.prog 12 #[.string ⟨#[109, 111, 110, 116, 104]⟩] w fun e w' => RYes 3 w e w' := by
  have t0 : ((⟨#[109, 111, 110, 116, 104]⟩ : ByteArray) == ⟨#[116, 105, 99, 107]⟩) = false := by decide
  have t1 : ((⟨#[109, 111, 110, 116, 104]⟩ : ByteArray) == ⟨#[100, 97, 121]⟩) = false := by decide
  have t2 : ((⟨#[109, 111, 110, 116, 104]⟩ : ByteArray) == ⟨#[119, 101, 101, 107]⟩) = false := by decide
  obtain ⟨ro, hro⟩ : ∃ ro, w.heap.size = ro := ⟨_, rfl⟩
  obtain ⟨wa, hwa⟩ : ∃ wa, w.alloc (.cells #[.int .i64 0, .int .i64 0, .slice none 0 0, .slice none 0 0] 29) = wa := ⟨_, rfl⟩
  obtain ⟨fb, hfb⟩ : ∃ z, wa.heap.size = z := ⟨_, rfl⟩
  obtain ⟨wb, hwb⟩ : ∃ z, wa.alloc (.cells #[.int .i64 146097, .int .i64 0, .slice none 0 0, .slice none 0 0] 29) = z := ⟨_, rfl⟩
  have hba : Below w.heap.size w wa := by rw [← hwa]; exact (Below.refl _ w).alloc (Nat.le_refl _) _
  have hza : wa.heap.size = ro + 1 := by rw [← hwa, ← hro]; simp
  have hra : wa.heap[ro]? = some (.cells #[.int .i64 0, .int .i64 0, .slice none 0 0, .slice none 0 0] 29 (0, 0)) := by rw [← hwa, ← hro, al_new]
  have kab : Below wa.heap.size wa wb := by rw [← hwb]; exact (Below.refl _ wa).alloc (Nat.le_refl _) _
  have hfc : wb.heap[fb]? = some (.cells #[.int .i64 146097, .int .i64 0, .slice none 0 0, .slice none 0 0] 29 (0, 0)) := by rw [← hwb, ← hfb, al_new]
  have HFM : Hid (Below w.heap.size w wb ∧ wb.heap[ro]? = some (.cells #[.int .i64 0, .int .i64 0, .slice none 0 0, .slice none 0 0] 29 (0, 0)) ∧ w.heap.size = ro ∧ fb = ro + 1) := Lib.hid ⟨hba.trans (kab.mono hba.size), (kab.block ro (by omega)).trans hra, hro, by omega⟩
  have HFC := Lib.hid hfc
  have c0 := cell_blk hfc 0
  have c1 := cell_blk hfc 1
  have c2 := cell_blk hfc 2
  have c3 := cell_blk hfc 3
  have f0 := blk_free hfc 0
  have f1 := blk_free hfc 1
  have f2 := blk_free hfc 2
  have f3 := blk_free hfc 3
  clear hba hza hra kab hfc
  go_enter Tryd.func12, Tryd.ntmps12
  go_upto_region 16 with fail
  clear hwa hfb hwb c0 c1 c2 c3 f0 f1 f2 f3
  have hb1 : (((((wb.setCell ⟨fb, 1, none⟩ (.int .i64 0)).setCell ⟨fb, 2, none⟩ (.slice none 0 0)).setCell ⟨fb, 3, none⟩ (.slice none 0 0)).setCell ⟨fb, 1, none⟩ (.int .i64 4800))).heap[fb]? = some (.cells #[.int .i64 146097, .int .i64 4800, .slice none 0 0, .slice none 0 0] 29 (0, 0)) := by
    rw [set_block (set_block (set_block (set_block (HFC.out) 1 (.int .i64 0)) 2 (.slice none 0 0)) 3 (.slice none 0 0)) 1 (.int .i64 4800)]; rfl
  have gf : wb.grownBy (((((wb.setCell ⟨fb, 1, none⟩ (.int .i64 0)).setCell ⟨fb, 2, none⟩ (.slice none 0 0)).setCell ⟨fb, 3, none⟩ (.slice none 0 0)).setCell ⟨fb, 1, none⟩ (.int .i64 4800))) (some fb) := grow_four' wb fb 1 2 3 1 (.int .i64 0) (.slice none 0 0) (.slice none 0 0) (.int .i64 4800)
  generalize ((((wb.setCell ⟨fb, 1, none⟩ (.int .i64 0)).setCell ⟨fb, 2, none⟩ (.slice none 0 0)).setCell ⟨fb, 3, none⟩ (.slice none 0 0)).setCell ⟨fb, 1, none⟩ (.int .i64 4800)) = w1 at hb1 gf ⊢
  have HM : Hid (Fm w w1 ro fb 146097 4800 (.slice none 0 0) (.slice none 0 0) 0 []) := Lib.hid (by
    obtain ⟨h1, h2, h3, h4⟩ := HFM.out
    exact ⟨h1.grown gf h1.size (fun q e => by cases e; omega), by omega, by omega, by omega, (gf.block ro (Array.getElem?_eq_some_iff.1 h2).1 (fun z => by cases z; omega)).trans h2, hb1, CoOwn.nil _ _⟩)
  obtain ⟨C, hC⟩ : ∃ z, bC 3 = z := ⟨_, rfl⟩
  have HCB : Hid (∀ j : Nat, j < 4800 → ∃ A B : Int, C[j]? = some [(A, B)] ∧ ∀ W, Calls Tryd.prog 24 #[.string ⟨#[109, 111, 110, 116, 104]⟩, .int .i64 (j : Int)] W fun e w' => e = .returned (.tuple #[.int .i64 A, .int .i64 B, .bool true]) ∧ W = w') := Lib.hid (fun j hj => ⟨_, _, by rw [← hC]; exact bC_at 3 j hj, fun W => gra_month j W (by omega) (by omega)⟩)
  have HCL : Hid (C.length = 4800 ∧ C = bC 3) := Lib.hid ⟨by rw [← hC]; exact bC_len 3, hC.symm⟩
  clear hb1 gf HFC hC
  go_loopw [5, 6, 7, 8] (fun ii s6 s7 s8 wr => ∃ (j : Nat) (v : Value), j ≤ 4800 ∧ ii = .int .i64 j ∧ Hid (Fm w wr ro fb 146097 4800 v v j (C.take j))) (fun ii s6 s7 s8 _ => 4800 - (intOf ii).toNat)
  case atStart => exact ⟨0, _, Nat.zero_le _, rfl, HM⟩
  case round =>
    clear HM
    obtain ⟨j, v, hj, rfl, HM⟩ := hrel
    have i0 : (0 : Int) ≤ (j : Int) := by omega
    have e1 := cell_blk HM.out.fbx 1
    by_cases jlt : j < 4800
    · have i1 : (j : Int) < 4800 := by omega
      have e2 := cell_blk HM.out.fbx 2
      obtain ⟨A, B, hAB, hG⟩ := HCB.out j jlt
      have HG := Lib.hid (hG wr)
      have HAB := Lib.hid hAB
      clear hAB hG
      go_wp2_with fail
      (with_reducible refine HG.out.mono ?_)
      rintro e w5 ⟨rfl, rfl⟩
      have HN := Lib.hid (show j ≤ 4800 by omega)
      go_wp2_with (at_builtin; go_loud (refine appC rfl _ _ rfl v j _ rfl HM.out A B rfl HN.out ?_); intro a8 c8 w8 HE8; have g2 := cell_blk HE8.fbx 2; have gz := blk_free HE8.fbx 2; have HE8 := Lib.hid HE8)
      have HM2 := Lib.hid HE8.out.put
      have e : C.take (j + 1) = C.take j ++ [[(A, B)]] := by
        have hl : j < C.length := by have := HCL.out.1; omega
        have := HAB.out
        rw [List.getElem?_eq_getElem hl] at this
        rw [List.take_succ_eq_append_getElem hl, Option.some.inj this]
      rw [← e] at HM2
      clear e HE8 g2 gz
      refine ⟨⟨j + 1, _, by omega, by go_num, HM2⟩, ?_⟩
      simp [intOf]; omega
    · obtain rfl : j = 4800 := by omega
      have hown : CoOwn wr w.heap.size v 4800 (bC 3) := by
        have h := HM.out.own
        rw [← HCL.out.2]
        rwa [List.take_of_length_le (Nat.le_of_eq HCL.out.1)] at h
      obtain ⟨a3, c3, rfl, _⟩ := hown.vs
      have HOW := Lib.hid hown
      have HR2 := Lib.hid HM.out.res
      have e0 := cell_blk HM.out.fbx 0
      have e2 := cell_blk HM.out.fbx 2
      have e3 := cell_blk HM.out.fbx 3
      clear hown HCB HCL
      have r0 := cell_blk HR2.out 0
      have r1 := cell_blk HR2.out 1
      have r2 := cell_blk HR2.out 2
      have r3 := cell_blk HR2.out 3
      have f0 := blk_free HR2.out 0
      have f1 := blk_free HR2.out 1
      have f2 := blk_free HR2.out 2
      have f3 := blk_free HR2.out 3
      go_wp2_with fail
      have gf := grow_four wr ro (.int .i64 146097) (.int .i64 4800) (.slice a3 4800 c3) (.slice none 0 0)
      have hrs := blk_four HR2.out (.int .i64 146097) (.int .i64 4800) (.slice a3 4800 c3) (.slice none 0 0)
      generalize (((wr.setCell ⟨ro, 0, none⟩ (.int .i64 146097)).setCell ⟨ro, 1, none⟩ (.int .i64 4800)).setCell ⟨ro, 2, none⟩ (.slice a3 4800 c3)).setCell ⟨ro, 3, none⟩ (.slice none 0 0) = wf at gf hrs ⊢
      clear r0 r1 r2 r3 f0 f1 f2 f3
      have r0 : wf.cell? ⟨ro, 0, none⟩ = some (.int .i64 146097) := cell_blk hrs 0
      have r1 : wf.cell? ⟨ro, 1, none⟩ = some (.int .i64 4800) := cell_blk hrs 1
      have r2 : wf.cell? ⟨ro, 2, none⟩ = some (.slice a3 4800 c3) := cell_blk hrs 2
      have r3 : wf.cell? ⟨ro, 3, none⟩ = some (.slice none 0 0) := cell_blk hrs 3
      have hb := HM.out.bw.grown gf HM.out.bw.size (fun q z => by cases z; exact HM.out.lo)
      have ho := HOW.out.grown gf (fun q z => by cases z; exact .inr ⟨_, 29, HM.out.res, by decide⟩) (fun q z => by cases z; exact .inr ⟨_, 29, HM.out.res, by decide⟩)
      obtain ⟨a4, c4, he, hco⟩ := ho.vs
      cases he
      exact bodyPost_ret (v := .tuple #[.agg #[.int .i64 146097, .int .i64 4800, .slice a3 4800 c3, .slice none 0 0], .int .i64 0]) (by simp [results, Tryd.results12, go_sem, r0, r1, r2, r3]) rfl ⟨a3, c3, none, 0, rfl, Lib.hid ⟨hco, ⟨rfl, Nat.le_refl _, Nat.zero_le _, fun _ => ⟨rfl, rfl⟩, fun h => absurd h (Nat.lt_irrefl _)⟩⟩, Lib.hid hb⟩
set_option maxRecDepth 8000 in
set_option maxHeartbeats 4000000 in
theorem rform_quarter (w : World) : Calls Tryd.prog 12 #[.string ⟨#[113, 117, 97, 114, 116, 101, 114]⟩] w fun e w' => RYes 4 w e w' := by
  have t0 : ((⟨#[113, 117, 97, 114, 116, 101, 114]⟩ : ByteArray) == ⟨#[116, 105, 99, 107]⟩) = false := by decide
  have t1 : ((⟨#[113, 117, 97, 114, 116, 101, 114]⟩ : ByteArray) == ⟨#[100, 97, 121]⟩) = false := by decide
  have t2 : ((⟨#[113, 117, 97, 114, 116, 101, 114]⟩ : ByteArray) == ⟨#[119, 101, 101, 107]⟩) = false := by decide
  have t3 : ((⟨#[113, 117, 97, 114, 116, 101, 114]⟩ : ByteArray) == ⟨#[109, 111, 110, 116, 104]⟩) = false := by decide
  obtain ⟨ro, hro⟩ : ∃ ro, w.heap.size = ro := ⟨_, rfl⟩
  obtain ⟨wa, hwa⟩ : ∃ wa, w.alloc (.cells #[.int .i64 0, .int .i64 0, .slice none 0 0, .slice none 0 0] 29) = wa := ⟨_, rfl⟩
  obtain ⟨fb, hfb⟩ : ∃ z, wa.heap.size = z := ⟨_, rfl⟩
  obtain ⟨wb, hwb⟩ : ∃ z, wa.alloc (.cells #[.int .i64 146097, .int .i64 0, .slice none 0 0, .slice none 0 0] 29) = z := ⟨_, rfl⟩
  have hba : Below w.heap.size w wa := by rw [← hwa]; exact (Below.refl _ w).alloc (Nat.le_refl _) _
  have hza : wa.heap.size = ro + 1 := by rw [← hwa, ← hro]; simp
  have hra : wa.heap[ro]? = some (.cells #[.int .i64 0, .int .i64 0, .slice none 0 0, .slice none 0 0] 29 (0, 0)) := by rw [← hwa, ← hro, al_new]
  have kab : Below wa.heap.size wa wb := by rw [← hwb]; exact (Below.refl _ wa).alloc (Nat.le_refl _) _
  have hfc : wb.heap[fb]? = some (.cells #[.int .i64 146097, .int .i64 0, .slice none 0 0, .slice none 0 0] 29 (0, 0)) := by rw [← hwb, ← hfb, al_new]
  have HFM : Hid (Below w.heap.size w wb ∧ wb.heap[ro]? = some (.cells #[.int .i64 0, .int .i64 0, .slice none 0 0, .slice none 0 0] 29 (0, 0)) ∧ w.heap.size = ro ∧ fb = ro + 1) := Lib.hid ⟨hba.trans (kab.mono hba.size), (kab.block ro (by omega)).trans hra, hro, by omega⟩
  have HFC := Lib.hid hfc
  have c0 := cell_blk hfc 0
  have c1 := cell_blk hfc 1
  have c2 := cell_blk hfc 2
  have c3 := cell_blk hfc 3
  have f0 := blk_free hfc 0
  have f1 := blk_free hfc 1
  have f2 := blk_free hfc 2
  have f3 := blk_free hfc 3
  clear hba hza hra kab hfc
  go_enter Tryd.func12, Tryd.ntmps12
  go_upto_region 16 with fail
  clear hwa hfb hwb c0 c1 c2 c3 f0 f1 f2 f3
  have hb1 : (((((wb.setCell ⟨fb, 1, none⟩ (.int .i64 0)).setCell ⟨fb, 2, none⟩ (.slice none 0 0)).setCell ⟨fb, 3, none⟩ (.slice none 0 0)).setCell ⟨fb, 1, none⟩ (.int .i64 1600))).heap[fb]? = some (.cells #[.int .i64 146097, .int .i64 1600, .slice none 0 0, .slice none 0 0] 29 (0, 0)) := by
    rw [set_block (set_block (set_block (set_block (HFC.out) 1 (.int .i64 0)) 2 (.slice none 0 0)) 3 (.slice none 0 0)) 1 (.int .i64 1600)]; rfl
  have gf : wb.grownBy (((((wb.setCell ⟨fb, 1, none⟩ (.int .i64 0)).setCell ⟨fb, 2, none⟩ (.slice none 0 0)).setCell ⟨fb, 3, none⟩ (.slice none 0 0)).setCell ⟨fb, 1, none⟩ (.int .i64 1600))) (some fb) := grow_four' wb fb 1 2 3 1 (.int .i64 0) (.slice none 0 0) (.slice none 0 0) (.int .i64 1600)
  generalize ((((wb.setCell ⟨fb, 1, none⟩ (.int .i64 0)).setCell ⟨fb, 2, none⟩ (.slice none 0 0)).setCell ⟨fb, 3, none⟩ (.slice none 0 0)).setCell ⟨fb, 1, none⟩ (.int .i64 1600)) = w1 at hb1 gf ⊢
  have HM : Hid (Fm w w1 ro fb 146097 1600 (.slice none 0 0) (.slice none 0 0) 0 []) := Lib.hid (by
    obtain ⟨h1, h2, h3, h4⟩ := HFM.out
    exact ⟨h1.grown gf h1.size (fun q e => by cases e; omega), by omega, by omega, by omega, (gf.block ro (Array.getElem?_eq_some_iff.1 h2).1 (fun z => by cases z; omega)).trans h2, hb1, CoOwn.nil _ _⟩)
  obtain ⟨C, hC⟩ : ∃ z, bC 4 = z := ⟨_, rfl⟩
  have HCB : Hid (∀ j : Nat, j < 1600 → ∃ A B : Int, C[j]? = some [(A, B)] ∧ ∀ W, Calls Tryd.prog 24 #[.string ⟨#[113, 117, 97, 114, 116, 101, 114]⟩, .int .i64 (j : Int)] W fun e w' => e = .returned (.tuple #[.int .i64 A, .int .i64 B, .bool true]) ∧ W = w') := Lib.hid (fun j hj => ⟨_, _, by rw [← hC]; exact bC_at 4 j hj, fun W => gra_quarter j W (by omega) (by omega)⟩)
  have HCL : Hid (C.length = 1600 ∧ C = bC 4) := Lib.hid ⟨by rw [← hC]; exact bC_len 4, hC.symm⟩
  clear hb1 gf HFC hC
  go_loopw [5, 6, 7, 8] (fun ii s6 s7 s8 wr => ∃ (j : Nat) (v : Value), j ≤ 1600 ∧ ii = .int .i64 j ∧ Hid (Fm w wr ro fb 146097 1600 v v j (C.take j))) (fun ii s6 s7 s8 _ => 1600 - (intOf ii).toNat)
  case atStart => exact ⟨0, _, Nat.zero_le _, rfl, HM⟩
  case round =>
    clear HM
    obtain ⟨j, v, hj, rfl, HM⟩ := hrel
    have i0 : (0 : Int) ≤ (j : Int) := by omega
    have e1 := cell_blk HM.out.fbx 1
    by_cases jlt : j < 1600
    · have i1 : (j : Int) < 1600 := by omega
      have e2 := cell_blk HM.out.fbx 2
      obtain ⟨A, B, hAB, hG⟩ := HCB.out j jlt
      have HG := Lib.hid (hG wr)
      have HAB := Lib.hid hAB
      clear hAB hG
      go_wp2_with fail
      (with_reducible refine HG.out.mono ?_)
      rintro e w5 ⟨rfl, rfl⟩
      have HN := Lib.hid (show j ≤ 4800 by omega)
      go_wp2_with (at_builtin; go_loud (refine appC rfl _ _ rfl v j _ rfl HM.out A B rfl HN.out ?_); intro a8 c8 w8 HE8; have g2 := cell_blk HE8.fbx 2; have gz := blk_free HE8.fbx 2; have HE8 := Lib.hid HE8)
      have HM2 := Lib.hid HE8.out.put
      have e : C.take (j + 1) = C.take j ++ [[(A, B)]] := by
        have hl : j < C.length := by have := HCL.out.1; omega
        have := HAB.out
        rw [List.getElem?_eq_getElem hl] at this
        rw [List.take_succ_eq_append_getElem hl, Option.some.inj this]
      rw [← e] at HM2
      clear e HE8 g2 gz
      refine ⟨⟨j + 1, _, by omega, by go_num, HM2⟩, ?_⟩
      simp [intOf]; omega
    · obtain rfl : j = 1600 := by omega
      have hown : CoOwn wr w.heap.size v 1600 (bC 4) := by
        have h := HM.out.own
        rw [← HCL.out.2]
        rwa [List.take_of_length_le (Nat.le_of_eq HCL.out.1)] at h
      obtain ⟨a3, c3, rfl, _⟩ := hown.vs
      have HOW := Lib.hid hown
      have HR2 := Lib.hid HM.out.res
      have e0 := cell_blk HM.out.fbx 0
      have e2 := cell_blk HM.out.fbx 2
      have e3 := cell_blk HM.out.fbx 3
      clear hown HCB HCL
      have r0 := cell_blk HR2.out 0
      have r1 := cell_blk HR2.out 1
      have r2 := cell_blk HR2.out 2
      have r3 := cell_blk HR2.out 3
      have f0 := blk_free HR2.out 0
      have f1 := blk_free HR2.out 1
      have f2 := blk_free HR2.out 2
      have f3 := blk_free HR2.out 3
      go_wp2_with fail
      have gf := grow_four wr ro (.int .i64 146097) (.int .i64 1600) (.slice a3 1600 c3) (.slice none 0 0)
      have hrs := blk_four HR2.out (.int .i64 146097) (.int .i64 1600) (.slice a3 1600 c3) (.slice none 0 0)
      generalize (((wr.setCell ⟨ro, 0, none⟩ (.int .i64 146097)).setCell ⟨ro, 1, none⟩ (.int .i64 1600)).setCell ⟨ro, 2, none⟩ (.slice a3 1600 c3)).setCell ⟨ro, 3, none⟩ (.slice none 0 0) = wf at gf hrs ⊢
      clear r0 r1 r2 r3 f0 f1 f2 f3
      have r0 : wf.cell? ⟨ro, 0, none⟩ = some (.int .i64 146097) := cell_blk hrs 0
      have r1 : wf.cell? ⟨ro, 1, none⟩ = some (.int .i64 1600) := cell_blk hrs 1
      have r2 : wf.cell? ⟨ro, 2, none⟩ = some (.slice a3 1600 c3) := cell_blk hrs 2
      have r3 : wf.cell? ⟨ro, 3, none⟩ = some (.slice none 0 0) := cell_blk hrs 3
      have hb := HM.out.bw.grown gf HM.out.bw.size (fun q z => by cases z; exact HM.out.lo)
      have ho := HOW.out.grown gf (fun q z => by cases z; exact .inr ⟨_, 29, HM.out.res, by decide⟩) (fun q z => by cases z; exact .inr ⟨_, 29, HM.out.res, by decide⟩)
      obtain ⟨a4, c4, he, hco⟩ := ho.vs
      cases he
      exact bodyPost_ret (v := .tuple #[.agg #[.int .i64 146097, .int .i64 1600, .slice a3 1600 c3, .slice none 0 0], .int .i64 0]) (by simp [results, Tryd.results12, go_sem, r0, r1, r2, r3]) rfl ⟨a3, c3, none, 0, rfl, Lib.hid ⟨hco, ⟨rfl, Nat.le_refl _, Nat.zero_le _, fun _ => ⟨rfl, rfl⟩, fun h => absurd h (Nat.lt_irrefl _)⟩⟩, Lib.hid hb⟩
set_option maxRecDepth 8000 in
set_option maxHeartbeats 4000000 in
theorem rform_year (w : World) : Calls Tryd.prog 12 #[.string ⟨#[121, 101, 97, 114]⟩] w fun e w' => RYes 5 w e w' := by
  have t0 : ((⟨#[121, 101, 97, 114]⟩ : ByteArray) == ⟨#[116, 105, 99, 107]⟩) = false := by decide
  have t1 : ((⟨#[121, 101, 97, 114]⟩ : ByteArray) == ⟨#[100, 97, 121]⟩) = false := by decide
  have t2 : ((⟨#[121, 101, 97, 114]⟩ : ByteArray) == ⟨#[119, 101, 101, 107]⟩) = false := by decide
  have t3 : ((⟨#[121, 101, 97, 114]⟩ : ByteArray) == ⟨#[109, 111, 110, 116, 104]⟩) = false := by decide
  have t4 : ((⟨#[121, 101, 97, 114]⟩ : ByteArray) == ⟨#[113, 117, 97, 114, 116, 101, 114]⟩) = false := by decide
  obtain ⟨ro, hro⟩ : ∃ ro, w.heap.size = ro := ⟨_, rfl⟩
  obtain ⟨wa, hwa⟩ : ∃ wa, w.alloc (.cells #[.int .i64 0, .int .i64 0, .slice none 0 0, .slice none 0 0] 29) = wa := ⟨_, rfl⟩
  obtain ⟨fb, hfb⟩ : ∃ z, wa.heap.size = z := ⟨_, rfl⟩
  obtain ⟨wb, hwb⟩ : ∃ z, wa.alloc (.cells #[.int .i64 146097, .int .i64 0, .slice none 0 0, .slice none 0 0] 29) = z := ⟨_, rfl⟩
  have hba : Below w.heap.size w wa := by rw [← hwa]; exact (Below.refl _ w).alloc (Nat.le_refl _) _
  have hza : wa.heap.size = ro + 1 := by rw [← hwa, ← hro]; simp
  have hra : wa.heap[ro]? = some (.cells #[.int .i64 0, .int .i64 0, .slice none 0 0, .slice none 0 0] 29 (0, 0)) := by rw [← hwa, ← hro, al_new]
  have kab : Below wa.heap.size wa wb := by rw [← hwb]; exact (Below.refl _ wa).alloc (Nat.le_refl _) _
  have hfc : wb.heap[fb]? = some (.cells #[.int .i64 146097, .int .i64 0, .slice none 0 0, .slice none 0 0] 29 (0, 0)) := by rw [← hwb, ← hfb, al_new]
  have HFM : Hid (Below w.heap.size w wb ∧ wb.heap[ro]? = some (.cells #[.int .i64 0, .int .i64 0, .slice none 0 0, .slice none 0 0] 29 (0, 0)) ∧ w.heap.size = ro ∧ fb = ro + 1) := Lib.hid ⟨hba.trans (kab.mono hba.size), (kab.block ro (by omega)).trans hra, hro, by omega⟩
  have HFC := Lib.hid hfc
  have c0 := cell_blk hfc 0
  have c1 := cell_blk hfc 1
  have c2 := cell_blk hfc 2
  have c3 := cell_blk hfc 3
  have f0 := blk_free hfc 0
  have f1 := blk_free hfc 1
  have f2 := blk_free hfc 2
  have f3 := blk_free hfc 3
  clear hba hza hra kab hfc
  go_enter Tryd.func12, Tryd.ntmps12
  go_upto_region 16 with fail
  clear hwa hfb hwb c0 c1 c2 c3 f0 f1 f2 f3
  have hb1 : (((((wb.setCell ⟨fb, 1, none⟩ (.int .i64 0)).setCell ⟨fb, 2, none⟩ (.slice none 0 0)).setCell ⟨fb, 3, none⟩ (.slice none 0 0)).setCell ⟨fb, 1, none⟩ (.int .i64 400))).heap[fb]? = some (.cells #[.int .i64 146097, .int .i64 400, .slice none 0 0, .slice none 0 0] 29 (0, 0)) := by
    rw [set_block (set_block (set_block (set_block (HFC.out) 1 (.int .i64 0)) 2 (.slice none 0 0)) 3 (.slice none 0 0)) 1 (.int .i64 400)]; rfl
  have gf : wb.grownBy (((((wb.setCell ⟨fb, 1, none⟩ (.int .i64 0)).setCell ⟨fb, 2, none⟩ (.slice none 0 0)).setCell ⟨fb, 3, none⟩ (.slice none 0 0)).setCell ⟨fb, 1, none⟩ (.int .i64 400))) (some fb) := grow_four' wb fb 1 2 3 1 (.int .i64 0) (.slice none 0 0) (.slice none 0 0) (.int .i64 400)
  generalize ((((wb.setCell ⟨fb, 1, none⟩ (.int .i64 0)).setCell ⟨fb, 2, none⟩ (.slice none 0 0)).setCell ⟨fb, 3, none⟩ (.slice none 0 0)).setCell ⟨fb, 1, none⟩ (.int .i64 400)) = w1 at hb1 gf ⊢
  have HM : Hid (Fm w w1 ro fb 146097 400 (.slice none 0 0) (.slice none 0 0) 0 []) := Lib.hid (by
    obtain ⟨h1, h2, h3, h4⟩ := HFM.out
    exact ⟨h1.grown gf h1.size (fun q e => by cases e; omega), by omega, by omega, by omega, (gf.block ro (Array.getElem?_eq_some_iff.1 h2).1 (fun z => by cases z; omega)).trans h2, hb1, CoOwn.nil _ _⟩)
  obtain ⟨C, hC⟩ : ∃ z, bC 5 = z := ⟨_, rfl⟩
  have HCB : Hid (∀ j : Nat, j < 400 → ∃ A B : Int, C[j]? = some [(A, B)] ∧ ∀ W, Calls Tryd.prog 24 #[.string ⟨#[121, 101, 97, 114]⟩, .int .i64 (j : Int)] W fun e w' => e = .returned (.tuple #[.int .i64 A, .int .i64 B, .bool true]) ∧ W = w') := Lib.hid (fun j hj => ⟨_, _, by rw [← hC]; exact bC_at 5 j hj, fun W => gra_year j W (by omega) (by omega)⟩)
  have HCL : Hid (C.length = 400 ∧ C = bC 5) := Lib.hid ⟨by rw [← hC]; exact bC_len 5, hC.symm⟩
  clear hb1 gf HFC hC
  go_loopw [5, 6, 7, 8] (fun ii s6 s7 s8 wr => ∃ (j : Nat) (v : Value), j ≤ 400 ∧ ii = .int .i64 j ∧ Hid (Fm w wr ro fb 146097 400 v v j (C.take j))) (fun ii s6 s7 s8 _ => 400 - (intOf ii).toNat)
  case atStart => exact ⟨0, _, Nat.zero_le _, rfl, HM⟩
  case round =>
    clear HM
    obtain ⟨j, v, hj, rfl, HM⟩ := hrel
    have i0 : (0 : Int) ≤ (j : Int) := by omega
    have e1 := cell_blk HM.out.fbx 1
    by_cases jlt : j < 400
    · have i1 : (j : Int) < 400 := by omega
      have e2 := cell_blk HM.out.fbx 2
      obtain ⟨A, B, hAB, hG⟩ := HCB.out j jlt
      have HG := Lib.hid (hG wr)
      have HAB := Lib.hid hAB
      clear hAB hG
      go_wp2_with fail
      (with_reducible refine HG.out.mono ?_)
      rintro e w5 ⟨rfl, rfl⟩
      have HN := Lib.hid (show j ≤ 4800 by omega)
      go_wp2_with (at_builtin; go_loud (refine appC rfl _ _ rfl v j _ rfl HM.out A B rfl HN.out ?_); intro a8 c8 w8 HE8; have g2 := cell_blk HE8.fbx 2; have gz := blk_free HE8.fbx 2; have HE8 := Lib.hid HE8)
      have HM2 := Lib.hid HE8.out.put
      have e : C.take (j + 1) = C.take j ++ [[(A, B)]] := by
        have hl : j < C.length := by have := HCL.out.1; omega
        have := HAB.out
        rw [List.getElem?_eq_getElem hl] at this
        rw [List.take_succ_eq_append_getElem hl, Option.some.inj this]
      rw [← e] at HM2
      clear e HE8 g2 gz
      refine ⟨⟨j + 1, _, by omega, by go_num, HM2⟩, ?_⟩
      simp [intOf]; omega
    · obtain rfl : j = 400 := by omega
      have hown : CoOwn wr w.heap.size v 400 (bC 5) := by
        have h := HM.out.own
        rw [← HCL.out.2]
        rwa [List.take_of_length_le (Nat.le_of_eq HCL.out.1)] at h
      obtain ⟨a3, c3, rfl, _⟩ := hown.vs
      have HOW := Lib.hid hown
      have HR2 := Lib.hid HM.out.res
      have e0 := cell_blk HM.out.fbx 0
      have e2 := cell_blk HM.out.fbx 2
      have e3 := cell_blk HM.out.fbx 3
      clear hown HCB HCL
      have r0 := cell_blk HR2.out 0
      have r1 := cell_blk HR2.out 1
      have r2 := cell_blk HR2.out 2
      have r3 := cell_blk HR2.out 3
      have f0 := blk_free HR2.out 0
      have f1 := blk_free HR2.out 1
      have f2 := blk_free HR2.out 2
      have f3 := blk_free HR2.out 3
      go_wp2_with fail
      have gf := grow_four wr ro (.int .i64 146097) (.int .i64 400) (.slice a3 400 c3) (.slice none 0 0)
      have hrs := blk_four HR2.out (.int .i64 146097) (.int .i64 400) (.slice a3 400 c3) (.slice none 0 0)
      generalize (((wr.setCell ⟨ro, 0, none⟩ (.int .i64 146097)).setCell ⟨ro, 1, none⟩ (.int .i64 400)).setCell ⟨ro, 2, none⟩ (.slice a3 400 c3)).setCell ⟨ro, 3, none⟩ (.slice none 0 0) = wf at gf hrs ⊢
      clear r0 r1 r2 r3 f0 f1 f2 f3
      have r0 : wf.cell? ⟨ro, 0, none⟩ = some (.int .i64 146097) := cell_blk hrs 0
      have r1 : wf.cell? ⟨ro, 1, none⟩ = some (.int .i64 400) := cell_blk hrs 1
      have r2 : wf.cell? ⟨ro, 2, none⟩ = some (.slice a3 400 c3) := cell_blk hrs 2
      have r3 : wf.cell? ⟨ro, 3, none⟩ = some (.slice none 0 0) := cell_blk hrs 3
      have hb := HM.out.bw.grown gf HM.out.bw.size (fun q z => by cases z; exact HM.out.lo)
      have ho := HOW.out.grown gf (fun q z => by cases z; exact .inr ⟨_, 29, HM.out.res, by decide⟩) (fun q z => by cases z; exact .inr ⟨_, 29, HM.out.res, by decide⟩)
      obtain ⟨a4, c4, he, hco⟩ := ho.vs
      cases he
      exact bodyPost_ret (v := .tuple #[.agg #[.int .i64 146097, .int .i64 400, .slice a3 400 c3, .slice none 0 0], .int .i64 0]) (by simp [results, Tryd.results12, go_sem, r0, r1, r2, r3]) rfl ⟨a3, c3, none, 0, rfl, Lib.hid ⟨hco, ⟨rfl, Nat.le_refl _, Nat.zero_le _, fun _ => ⟨rfl, rfl⟩, fun h => absurd h (Nat.lt_irrefl _)⟩⟩, Lib.hid hb⟩
end Go.Proofs.YtacpcokmgahjaaaDoor
