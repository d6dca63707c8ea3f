/- Contracts: Names, made of basis. -/
import Derived.Test.YtacpcokmgahjaaaDoorB3
namespace Go.Proofs.YtacpcokmgahjaaaDoor
set_option linter.unusedVariables false
set_option linter.unusedSimpArgs false
open Go.ChangeShapes Go.WideShapes Go.ChangeAt Go.RowKit
/-- The names, as they lie in memory. -/
def nm : Nat → ByteArray
  | 0 => ⟨#[116, 105, 99, 107]⟩
  | 1 => ⟨#[100, 97, 121]⟩
  | 2 => ⟨#[119, 101, 101, 107]⟩
  | 3 => ⟨#[109, 111, 110, 116, 104]⟩
  | 4 => ⟨#[113, 117, 97, 114, 116, 101, 114]⟩
  | _ => ⟨#[121, 101, 97, 114]⟩
theorem names_any (w : World) : Calls Tryd.prog 9 #[] w fun e w' => e = .returned (.slice (some ⟨w.heap.size, 0, none⟩) 6 6) ∧ w' = w.alloc (.cells #[.string ⟨#[116, 105, 99, 107]⟩, .string ⟨#[100, 97, 121]⟩, .string ⟨#[119, 101, 101, 107]⟩, .string ⟨#[109, 111, 110, 116, 104]⟩, .string ⟨#[113, 117, 97, 114, 116, 101, 114]⟩, .string ⟨#[121, 101, 97, 114]⟩] 9) := by
  go_enter Tryd.func9, Tryd.ntmps9
  go_wp2
  go_returns
  exact ⟨rfl, rfl⟩
/-- The forms of the names. -/
def bN : Nat → Nat
  | 0 => 1
  | 1 => 1
  | 2 => 1
  | 3 => 4800
  | 4 => 1600
  | _ => 400
def bP : Nat → Int
  | 0 => 1
  | 1 => 1
  | 2 => 7
  | _ => 146097
def bC : Nat → List (List Sp)
  | 0 => [[(0, 0)]]
  | 1 => [[(0, 0)]]
  | 2 => [[(-3, 3)]]
  | 3 => monC 1 4800
  | 4 => monC 3 1600
  | _ => monC 12 400
theorem dayS_all : dayS 4800 = 146097 := by decide
/-- What lies from a block on is as it was. -/
def Btw (B : Nat) (w W : World) : Prop := ∀ q, B ≤ q → q < w.heap.size → W.heap[q]? = w.heap[q]?
theorem MonAt.btw {B n k g i : Nat} {w w' : World} (h : MonAt B n k w g i) (q : Btw B w w') (hg : B ≤ g) : MonAt B n k w' g i := by
  obtain ⟨cur, a, b, c⟩ := h.row
  refine ⟨cur, (q g hg (Array.getElem?_eq_some_iff.1 a).1).trans a, b, fun j hj => ?_⟩
  obtain ⟨h, d, e, e2, f⟩ := c j hj
  exact ⟨h, d, e, e2, (q h e (Array.getElem?_eq_some_iff.1 f).1).trans f⟩
theorem MonAt.mono {B C n k g i : Nat} {w : World} (h : MonAt B n k w g i) (q : C ≤ B) : MonAt C n k w g i := by
  obtain ⟨cur, a, b, c⟩ := h.row
  refine ⟨cur, a, b, fun j hj => ?_⟩
  obtain ⟨h, d, e, e2, f⟩ := c j hj
  exact ⟨h, d, Nat.le_trans q e, e2, f⟩
/-- A form that was made. -/
def MadeOut (i : Nat) (w : World) (e : Ending) (w' : World) : Prop := ∃ g, e = .returned (.agg #[.int .i64 (bP i), .int .i64 (bN i : Int), .slice (some ⟨g, 0, none⟩) (bN i) (bN i), .slice none 0 0]) ∧ (∀ W : World, Btw w.heap.size w' W → CoAt W (some ⟨g, 0, none⟩) (bN i) (bN i) (bC i)) ∧ Below w.heap.size w w'
theorem co_one {w : World} {g h : Nat} {a b : Int} {t u : TypeId} (h1 : w.heap[g]? = some (.cells #[.slice (some ⟨h, 0, none⟩) 1 1] t (0, 0))) (h2 : w.heap[h]? = some (.cells #[.int .i64 a, .int .i64 b] u (0, 0))) : CoAt w (some ⟨g, 0, none⟩) 1 1 [[(a, b)]] := by
  refine ⟨rfl, Nat.le_refl _, by omega, (fun h => by cases h), fun _ => ⟨g, 0, rfl, fun i hi => ?_⟩⟩
  have : i = 0 := by simp at hi; omega
  subst this
  exact ⟨some ⟨h, 0, none⟩, 1, 1, cell_blk h1 0, sp_one h2⟩
theorem MonAt.off {B n k g i ro : Nat} {w w' : World} (h : MonAt B n k w g i) (q : w.grownBy w' (some ro)) (hr : ro < B) (hg : B ≤ g) : MonAt B n k w' g i := by
  obtain ⟨cur, a, b, c⟩ := h.row
  refine ⟨cur, (q.block g (Array.getElem?_eq_some_iff.1 a).1 (fun z => by cases z; omega)).trans a, b, fun j hj => ?_⟩
  obtain ⟨h, d, e, e2, f⟩ := c j hj
  exact ⟨h, d, e, e2, (q.block h (Array.getElem?_eq_some_iff.1 f).1 (fun z => by cases z; omega)).trans f⟩
set_option maxHeartbeats 1000000 in
theorem made_tick (w : World) : Calls Tryd.prog 46 #[.string ⟨#[116, 105, 99, 107]⟩] w fun e w' => MadeOut 0 w e w' := by
  have t0 : ((⟨#[116, 105, 99, 107]⟩ : ByteArray) == ⟨#[119, 101, 101, 107]⟩) = false := by decide
  have t1 : ((⟨#[116, 105, 99, 107]⟩ : ByteArray) == ⟨#[109, 111, 110, 116, 104]⟩) = false := by decide
  have t2 : ((⟨#[116, 105, 99, 107]⟩ : ByteArray) == ⟨#[113, 117, 97, 114, 116, 101, 114]⟩) = false := by decide
  have t3 : ((⟨#[116, 105, 99, 107]⟩ : ByteArray) == ⟨#[121, 101, 97, 114]⟩) = false := by decide
  obtain ⟨ro, hro⟩ : ∃ ro, w.heap.size = ro := ⟨_, rfl⟩
  obtain ⟨wa, hwa⟩ : ∃ wa, w.alloc (.cells #[.int .i64 0, .int .i64 0, .slice none 0 0, .slice none 0 0] 29) = wa := ⟨_, rfl⟩
  have HRO : Hid (wa.heap[ro]? = some (.cells #[.int .i64 0, .int .i64 0, .slice none 0 0, .slice none 0 0] 29 (0, 0))) := Lib.hid (by rw [← hwa, ← hro, al_new])
  have HBA : Hid (Below w.heap.size w wa) := Lib.hid (by rw [← hwa]; exact (Below.refl _ w).alloc (Nat.le_refl _) _)
  have HZA : Hid (wa.heap.size = ro + 1) := Lib.hid (by rw [← hwa, ← hro]; simp)
  have HRW := Lib.hid hro
  go_enter Tryd.func46, Tryd.ntmps46
  go_upto_region 10 with fail
  clear hwa hro
  obtain ⟨g1, hg1⟩ : ∃ g, wa.heap.size = g := ⟨_, rfl⟩
  obtain ⟨wb, hwb⟩ : ∃ wb, (wa.alloc (.cells #[.int .i64 (0), .int .i64 0] 42)).alloc (.cells #[.slice (some ⟨g1, 0, none⟩) 1 1] 38) = wb := ⟨_, rfl⟩
  have KB : Below wa.heap.size wa wb := by rw [← hwb]; exact ((Below.refl _ wa).alloc (Nat.le_refl _) _).alloc (by simp) _
  have hb1 : wb.heap[g1]? = some (.cells #[.int .i64 (0), .int .i64 0] 42 (0, 0)) := by rw [← hwb, al_old _ _ (by simp; omega), ← hg1, al_new]
  have hb2 : wb.heap[g1 + 1]? = some (.cells #[.slice (some ⟨g1, 0, none⟩) 1 1] 38 (0, 0)) := by rw [← hwb, show g1 + 1 = (wa.alloc (.cells #[.int .i64 (0), .int .i64 0] 42)).heap.size by simp; omega, al_new]
  have hro2 := (KB.block ro (by have := HZA.out; omega)).trans HRO.out
  have HG1 := Lib.hid hg1
  have HKB := Lib.hid KB
  have HB1 := Lib.hid hb1
  have HB2 := Lib.hid hb2
  have HR2 := Lib.hid hro2
  have r0 := cell_blk hro2 0
  have r1 := cell_blk hro2 1
  have r2 := cell_blk hro2 2
  have r3 := cell_blk hro2 3
  have f0 := blk_free hro2 0
  have f1 := blk_free hro2 1
  have f2 := blk_free hro2 2
  have f3 := blk_free hro2 3
  clear hb1 hb2 hro2 KB
  go_wp2_with fail
  have gf := grow_four wb ro (.int .i64 1) (.int .i64 1) (.slice (some ⟨g1 + 1, 0, none⟩) 1 1) (.slice none 0 0)
  have hrs := blk_four HR2.out (.int .i64 1) (.int .i64 1) (.slice (some ⟨g1 + 1, 0, none⟩) 1 1) (.slice none 0 0)
  generalize (((wb.setCell ⟨ro, 0, none⟩ (.int .i64 1)).setCell ⟨ro, 1, none⟩ (.int .i64 1)).setCell ⟨ro, 2, none⟩ (.slice (some ⟨g1 + 1, 0, none⟩) 1 1)).setCell ⟨ro, 3, none⟩ (.slice none 0 0) = wf at gf hrs ⊢
  have hbw : Below w.heap.size w wf := (HBA.out.trans (HKB.out.mono HBA.out.size)).grown gf (Nat.le_trans HBA.out.size HKB.out.size) (fun q z => by cases z; exact Nat.le_of_eq HRW.out)
  clear r0 r1 r2 r3 f0 f1 f2 f3
  have r0 : wf.cell? ⟨ro, 0, none⟩ = some (.int .i64 1) := cell_blk hrs 0
  have r1 : wf.cell? ⟨ro, 1, none⟩ = some (.int .i64 1) := cell_blk hrs 1
  have r2 : wf.cell? ⟨ro, 2, none⟩ = some (.slice (some ⟨g1 + 1, 0, none⟩) 1 1) := cell_blk hrs 2
  have r3 : wf.cell? ⟨ro, 3, none⟩ = some (.slice none 0 0) := cell_blk hrs 3
  have hg := HG1.out
  have hz := HZA.out
  have hs := (Array.getElem?_eq_some_iff.1 HB2.out).1
  exact bodyPost_ret (v := .agg #[.int .i64 1, .int .i64 1, .slice (some ⟨g1 + 1, 0, none⟩) 1 1, .slice none 0 0]) (by simp [results, Tryd.results46, go_sem, r0, r1, r2, r3]) rfl ⟨g1 + 1, rfl, fun W hW => co_one ((hW (g1 + 1) (by have := HRW.out; omega) (by have := gf.size; omega)).trans ((gf.block (g1 + 1) hs (fun z => by cases z; omega)).trans HB2.out)) ((hW g1 (by have := HRW.out; omega) (by have := gf.size; omega)).trans ((gf.block g1 (by omega) (fun z => by cases z; omega)).trans HB1.out)), hbw⟩
set_option maxHeartbeats 1000000 in
theorem made_day (w : World) : Calls Tryd.prog 46 #[.string ⟨#[100, 97, 121]⟩] w fun e w' => MadeOut 1 w e w' := by
  have t0 : ((⟨#[100, 97, 121]⟩ : ByteArray) == ⟨#[119, 101, 101, 107]⟩) = false := by decide
  have t1 : ((⟨#[100, 97, 121]⟩ : ByteArray) == ⟨#[109, 111, 110, 116, 104]⟩) = false := by decide
  have t2 : ((⟨#[100, 97, 121]⟩ : ByteArray) == ⟨#[113, 117, 97, 114, 116, 101, 114]⟩) = false := by decide
  have t3 : ((⟨#[100, 97, 121]⟩ : ByteArray) == ⟨#[121, 101, 97, 114]⟩) = false := by decide
  obtain ⟨ro, hro⟩ : ∃ ro, w.heap.size = ro := ⟨_, rfl⟩
  obtain ⟨wa, hwa⟩ : ∃ wa, w.alloc (.cells #[.int .i64 0, .int .i64 0, .slice none 0 0, .slice none 0 0] 29) = wa := ⟨_, rfl⟩
  have HRO : Hid (wa.heap[ro]? = some (.cells #[.int .i64 0, .int .i64 0, .slice none 0 0, .slice none 0 0] 29 (0, 0))) := Lib.hid (by rw [← hwa, ← hro, al_new])
  have HBA : Hid (Below w.heap.size w wa) := Lib.hid (by rw [← hwa]; exact (Below.refl _ w).alloc (Nat.le_refl _) _)
  have HZA : Hid (wa.heap.size = ro + 1) := Lib.hid (by rw [← hwa, ← hro]; simp)
  have HRW := Lib.hid hro
  go_enter Tryd.func46, Tryd.ntmps46
  go_upto_region 10 with fail
  clear hwa hro
  obtain ⟨g1, hg1⟩ : ∃ g, wa.heap.size = g := ⟨_, rfl⟩
  obtain ⟨wb, hwb⟩ : ∃ wb, (wa.alloc (.cells #[.int .i64 (0), .int .i64 0] 42)).alloc (.cells #[.slice (some ⟨g1, 0, none⟩) 1 1] 38) = wb := ⟨_, rfl⟩
  have KB : Below wa.heap.size wa wb := by rw [← hwb]; exact ((Below.refl _ wa).alloc (Nat.le_refl _) _).alloc (by simp) _
  have hb1 : wb.heap[g1]? = some (.cells #[.int .i64 (0), .int .i64 0] 42 (0, 0)) := by rw [← hwb, al_old _ _ (by simp; omega), ← hg1, al_new]
  have hb2 : wb.heap[g1 + 1]? = some (.cells #[.slice (some ⟨g1, 0, none⟩) 1 1] 38 (0, 0)) := by rw [← hwb, show g1 + 1 = (wa.alloc (.cells #[.int .i64 (0), .int .i64 0] 42)).heap.size by simp; omega, al_new]
  have hro2 := (KB.block ro (by have := HZA.out; omega)).trans HRO.out
  have HG1 := Lib.hid hg1
  have HKB := Lib.hid KB
  have HB1 := Lib.hid hb1
  have HB2 := Lib.hid hb2
  have HR2 := Lib.hid hro2
  have r0 := cell_blk hro2 0
  have r1 := cell_blk hro2 1
  have r2 := cell_blk hro2 2
  have r3 := cell_blk hro2 3
  have f0 := blk_free hro2 0
  have f1 := blk_free hro2 1
  have f2 := blk_free hro2 2
  have f3 := blk_free hro2 3
  clear hb1 hb2 hro2 KB
  go_wp2_with fail
  have gf := grow_four wb ro (.int .i64 1) (.int .i64 1) (.slice (some ⟨g1 + 1, 0, none⟩) 1 1) (.slice none 0 0)
  have hrs := blk_four HR2.out (.int .i64 1) (.int .i64 1) (.slice (some ⟨g1 + 1, 0, none⟩) 1 1) (.slice none 0 0)
  generalize (((wb.setCell ⟨ro, 0, none⟩ (.int .i64 1)).setCell ⟨ro, 1, none⟩ (.int .i64 1)).setCell ⟨ro, 2, none⟩ (.slice (some ⟨g1 + 1, 0, none⟩) 1 1)).setCell ⟨ro, 3, none⟩ (.slice none 0 0) = wf at gf hrs ⊢
  have hbw : Below w.heap.size w wf := (HBA.out.trans (HKB.out.mono HBA.out.size)).grown gf (Nat.le_trans HBA.out.size HKB.out.size) (fun q z => by cases z; exact Nat.le_of_eq HRW.out)
  clear r0 r1 r2 r3 f0 f1 f2 f3
  have r0 : wf.cell? ⟨ro, 0, none⟩ = some (.int .i64 1) := cell_blk hrs 0
  have r1 : wf.cell? ⟨ro, 1, none⟩ = some (.int .i64 1) := cell_blk hrs 1
  have r2 : wf.cell? ⟨ro, 2, none⟩ = some (.slice (some ⟨g1 + 1, 0, none⟩) 1 1) := cell_blk hrs 2
  have r3 : wf.cell? ⟨ro, 3, none⟩ = some (.slice none 0 0) := cell_blk hrs 3
  have hg := HG1.out
  have hz := HZA.out
  have hs := (Array.getElem?_eq_some_iff.1 HB2.out).1
  exact bodyPost_ret (v := .agg #[.int .i64 1, .int .i64 1, .slice (some ⟨g1 + 1, 0, none⟩) 1 1, .slice none 0 0]) (by simp [results, Tryd.results46, go_sem, r0, r1, r2, r3]) rfl ⟨g1 + 1, rfl, fun W hW => co_one ((hW (g1 + 1) (by have := HRW.out; omega) (by have := gf.size; omega)).trans ((gf.block (g1 + 1) hs (fun z => by cases z; omega)).trans HB2.out)) ((hW g1 (by have := HRW.out; omega) (by have := gf.size; omega)).trans ((gf.block g1 (by omega) (fun z => by cases z; omega)).trans HB1.out)), hbw⟩
set_option maxHeartbeats 1000000 in
theorem made_week (w : World) : Calls Tryd.prog 46 #[.string ⟨#[119, 101, 101, 107]⟩] w fun e w' => MadeOut 2 w e w' := by
  have t0 : ((⟨#[119, 101, 101, 107]⟩ : ByteArray) == ⟨#[119, 101, 101, 107]⟩) = true := by decide
  obtain ⟨ro, hro⟩ : ∃ ro, w.heap.size = ro := ⟨_, rfl⟩
  obtain ⟨wa, hwa⟩ : ∃ wa, w.alloc (.cells #[.int .i64 0, .int .i64 0, .slice none 0 0, .slice none 0 0] 29) = wa := ⟨_, rfl⟩
  have HRO : Hid (wa.heap[ro]? = some (.cells #[.int .i64 0, .int .i64 0, .slice none 0 0, .slice none 0 0] 29 (0, 0))) := Lib.hid (by rw [← hwa, ← hro, al_new])
  have HBA : Hid (Below w.heap.size w wa) := Lib.hid (by rw [← hwa]; exact (Below.refl _ w).alloc (Nat.le_refl _) _)
  have HZA : Hid (wa.heap.size = ro + 1) := Lib.hid (by rw [← hwa, ← hro]; simp)
  have HRW := Lib.hid hro
  go_enter Tryd.func46, Tryd.ntmps46
  go_upto_region 3 with fail
  clear hwa hro
  obtain ⟨g1, hg1⟩ : ∃ g, wa.heap.size = g := ⟨_, rfl⟩
  obtain ⟨wb, hwb⟩ : ∃ wb, (wa.alloc (.cells #[.int .i64 (-3), .int .i64 3] 42)).alloc (.cells #[.slice (some ⟨g1, 0, none⟩) 1 1] 38) = wb := ⟨_, rfl⟩
  have KB : Below wa.heap.size wa wb := by rw [← hwb]; exact ((Below.refl _ wa).alloc (Nat.le_refl _) _).alloc (by simp) _
  have hb1 : wb.heap[g1]? = some (.cells #[.int .i64 (-3), .int .i64 3] 42 (0, 0)) := by rw [← hwb, al_old _ _ (by simp; omega), ← hg1, al_new]
  have hb2 : wb.heap[g1 + 1]? = some (.cells #[.slice (some ⟨g1, 0, none⟩) 1 1] 38 (0, 0)) := by rw [← hwb, show g1 + 1 = (wa.alloc (.cells #[.int .i64 (-3), .int .i64 3] 42)).heap.size by simp; omega, al_new]
  have hro2 := (KB.block ro (by have := HZA.out; omega)).trans HRO.out
  have HG1 := Lib.hid hg1
  have HKB := Lib.hid KB
  have HB1 := Lib.hid hb1
  have HB2 := Lib.hid hb2
  have HR2 := Lib.hid hro2
  have r0 := cell_blk hro2 0
  have r1 := cell_blk hro2 1
  have r2 := cell_blk hro2 2
  have r3 := cell_blk hro2 3
  have f0 := blk_free hro2 0
  have f1 := blk_free hro2 1
  have f2 := blk_free hro2 2
  have f3 := blk_free hro2 3
  clear hb1 hb2 hro2 KB
  go_wp2_with fail
  have gf := grow_four wb ro (.int .i64 7) (.int .i64 1) (.slice (some ⟨g1 + 1, 0, none⟩) 1 1) (.slice none 0 0)
  have hrs := blk_four HR2.out (.int .i64 7) (.int .i64 1) (.slice (some ⟨g1 + 1, 0, none⟩) 1 1) (.slice none 0 0)
  generalize (((wb.setCell ⟨ro, 0, none⟩ (.int .i64 7)).setCell ⟨ro, 1, none⟩ (.int .i64 1)).setCell ⟨ro, 2, none⟩ (.slice (some ⟨g1 + 1, 0, none⟩) 1 1)).setCell ⟨ro, 3, none⟩ (.slice none 0 0) = wf at gf hrs ⊢
  have hbw : Below w.heap.size w wf := (HBA.out.trans (HKB.out.mono HBA.out.size)).grown gf (Nat.le_trans HBA.out.size HKB.out.size) (fun q z => by cases z; exact Nat.le_of_eq HRW.out)
  clear r0 r1 r2 r3 f0 f1 f2 f3
  have r0 : wf.cell? ⟨ro, 0, none⟩ = some (.int .i64 7) := cell_blk hrs 0
  have r1 : wf.cell? ⟨ro, 1, none⟩ = some (.int .i64 1) := cell_blk hrs 1
  have r2 : wf.cell? ⟨ro, 2, none⟩ = some (.slice (some ⟨g1 + 1, 0, none⟩) 1 1) := cell_blk hrs 2
  have r3 : wf.cell? ⟨ro, 3, none⟩ = some (.slice none 0 0) := cell_blk hrs 3
  have hg := HG1.out
  have hz := HZA.out
  have hs := (Array.getElem?_eq_some_iff.1 HB2.out).1
  exact bodyPost_ret (v := .agg #[.int .i64 7, .int .i64 1, .slice (some ⟨g1 + 1, 0, none⟩) 1 1, .slice none 0 0]) (by simp [results, Tryd.results46, go_sem, r0, r1, r2, r3]) rfl ⟨g1 + 1, rfl, fun W hW => co_one ((hW (g1 + 1) (by have := HRW.out; omega) (by have := gf.size; omega)).trans ((gf.block (g1 + 1) hs (fun z => by cases z; omega)).trans HB2.out)) ((hW g1 (by have := HRW.out; omega) (by have := gf.size; omega)).trans ((gf.block g1 (by omega) (fun z => by cases z; omega)).trans HB1.out)), hbw⟩
set_option maxHeartbeats 1000000 in
theorem made_month (w : World) (hT : Tab w) : Calls Tryd.prog 46 #[.string ⟨#[109, 111, 110, 116, 104]⟩] w fun e w' => MadeOut 3 w e w' := by
  have t0 : ((⟨#[109, 111, 110, 116, 104]⟩ : ByteArray) == ⟨#[119, 101, 101, 107]⟩) = false := by decide
  have t1 : ((⟨#[109, 111, 110, 116, 104]⟩ : ByteArray) == ⟨#[109, 111, 110, 116, 104]⟩) = true := by decide
  obtain ⟨ro, hro⟩ : ∃ ro, w.heap.size = ro := ⟨_, rfl⟩
  obtain ⟨wa, hwa⟩ : ∃ wa, w.alloc (.cells #[.int .i64 0, .int .i64 0, .slice none 0 0, .slice none 0 0] 29) = wa := ⟨_, rfl⟩
  have HRO : Hid (wa.heap[ro]? = some (.cells #[.int .i64 0, .int .i64 0, .slice none 0 0, .slice none 0 0] 29 (0, 0))) := Lib.hid (by rw [← hwa, ← hro, al_new])
  have HBA : Hid (Below w.heap.size w wa) := Lib.hid (by rw [← hwa]; exact (Below.refl _ w).alloc (Nat.le_refl _) _)
  have HZA : Hid (wa.heap.size = ro + 1) := Lib.hid (by rw [← hwa, ← hro]; simp)
  have HRW := Lib.hid hro
  have HMM := Lib.hid (months_any 1 4800 (by decide) (by decide) (by decide) (by decide) wa (hT.keep HBA.out))
  rw [dayS_all] at HMM
  have HMM : Hid (Calls Tryd.prog 83 #[.int .i64 1] wa fun e w' => ∃ g, e = .returned (.agg #[.int .i64 146097, .int .i64 4800, .slice (some ⟨g, 0, none⟩) 4800 4800, .slice none 0 0]) ∧ Hid (MonAt wa.heap.size 1 4800 w' g 4800 ∧ wa.heap.size ≤ g) ∧ Hid (Below wa.heap.size wa w')) := HMM
  clear hT
  go_enter Tryd.func46, Tryd.ntmps46
  go_upto_region 5 with fail
  clear hwa hro
  go_wp2_with fail
  (with_reducible refine HMM.out.mono ?_)
  rintro e wb ⟨g, rfl, HG, HKB⟩
  have HR2 := Lib.hid ((HKB.out.block ro (by have := HZA.out; omega)).trans HRO.out)
  have r0 := cell_blk HR2.out 0
  have r1 := cell_blk HR2.out 1
  have r2 := cell_blk HR2.out 2
  have r3 := cell_blk HR2.out 3
  have f0 := blk_free HR2.out 0
  have f1 := blk_free HR2.out 1
  have f2 := blk_free HR2.out 2
  have f3 := blk_free HR2.out 3
  clear HMM
  go_wp2_with fail
  have gf := grow_four wb ro (.int .i64 146097) (.int .i64 4800) (.slice (some ⟨g, 0, none⟩) 4800 4800) (.slice none 0 0)
  have hrs := blk_four HR2.out (.int .i64 146097) (.int .i64 4800) (.slice (some ⟨g, 0, none⟩) 4800 4800) (.slice none 0 0)
  generalize (((wb.setCell ⟨ro, 0, none⟩ (.int .i64 146097)).setCell ⟨ro, 1, none⟩ (.int .i64 4800)).setCell ⟨ro, 2, none⟩ (.slice (some ⟨g, 0, none⟩) 4800 4800)).setCell ⟨ro, 3, none⟩ (.slice none 0 0) = wf at gf hrs ⊢
  have hbw : Below w.heap.size w wf := (HBA.out.trans (HKB.out.mono HBA.out.size)).grown gf (Nat.le_trans HBA.out.size HKB.out.size) (fun q z => by cases z; exact Nat.le_of_eq HRW.out)
  clear r0 r1 r2 r3 f0 f1 f2 f3
  have r0 : wf.cell? ⟨ro, 0, none⟩ = some (.int .i64 146097) := cell_blk hrs 0
  have r1 : wf.cell? ⟨ro, 1, none⟩ = some (.int .i64 4800) := cell_blk hrs 1
  have r2 : wf.cell? ⟨ro, 2, none⟩ = some (.slice (some ⟨g, 0, none⟩) 4800 4800) := cell_blk hrs 2
  have r3 : wf.cell? ⟨ro, 3, none⟩ = some (.slice none 0 0) := cell_blk hrs 3
  exact bodyPost_ret (v := .agg #[.int .i64 146097, .int .i64 4800, .slice (some ⟨g, 0, none⟩) 4800 4800, .slice none 0 0]) (by simp [results, Tryd.results46, go_sem, r0, r1, r2, r3]) rfl ⟨g, rfl, fun W hW => (((HG.out.1.off gf (by have := HZA.out; omega) HG.out.2).mono (by have := HZA.out; have := HRW.out; omega)).btw hW (by have := HG.out.2; have := HZA.out; have := HRW.out; omega)).co (by decide), hbw⟩
set_option maxHeartbeats 1000000 in
theorem made_quarter (w : World) (hT : Tab w) : Calls Tryd.prog 46 #[.string ⟨#[113, 117, 97, 114, 116, 101, 114]⟩] w fun e w' => MadeOut 4 w e w' := by
  have t0 : ((⟨#[113, 117, 97, 114, 116, 101, 114]⟩ : ByteArray) == ⟨#[119, 101, 101, 107]⟩) = false := by decide
  have t1 : ((⟨#[113, 117, 97, 114, 116, 101, 114]⟩ : ByteArray) == ⟨#[109, 111, 110, 116, 104]⟩) = false := by decide
  have t2 : ((⟨#[113, 117, 97, 114, 116, 101, 114]⟩ : ByteArray) == ⟨#[113, 117, 97, 114, 116, 101, 114]⟩) = true := by decide
  obtain ⟨ro, hro⟩ : ∃ ro, w.heap.size = ro := ⟨_, rfl⟩
  obtain ⟨wa, hwa⟩ : ∃ wa, w.alloc (.cells #[.int .i64 0, .int .i64 0, .slice none 0 0, .slice none 0 0] 29) = wa := ⟨_, rfl⟩
  have HRO : Hid (wa.heap[ro]? = some (.cells #[.int .i64 0, .int .i64 0, .slice none 0 0, .slice none 0 0] 29 (0, 0))) := Lib.hid (by rw [← hwa, ← hro, al_new])
  have HBA : Hid (Below w.heap.size w wa) := Lib.hid (by rw [← hwa]; exact (Below.refl _ w).alloc (Nat.le_refl _) _)
  have HZA : Hid (wa.heap.size = ro + 1) := Lib.hid (by rw [← hwa, ← hro]; simp)
  have HRW := Lib.hid hro
  have HMM := Lib.hid (months_any 3 1600 (by decide) (by decide) (by decide) (by decide) wa (hT.keep HBA.out))
  rw [dayS_all] at HMM
  have HMM : Hid (Calls Tryd.prog 83 #[.int .i64 3] wa fun e w' => ∃ g, e = .returned (.agg #[.int .i64 146097, .int .i64 1600, .slice (some ⟨g, 0, none⟩) 1600 1600, .slice none 0 0]) ∧ Hid (MonAt wa.heap.size 3 1600 w' g 1600 ∧ wa.heap.size ≤ g) ∧ Hid (Below wa.heap.size wa w')) := HMM
  clear hT
  go_enter Tryd.func46, Tryd.ntmps46
  go_upto_region 7 with fail
  clear hwa hro
  go_wp2_with fail
  (with_reducible refine HMM.out.mono ?_)
  rintro e wb ⟨g, rfl, HG, HKB⟩
  have HR2 := Lib.hid ((HKB.out.block ro (by have := HZA.out; omega)).trans HRO.out)
  have r0 := cell_blk HR2.out 0
  have r1 := cell_blk HR2.out 1
  have r2 := cell_blk HR2.out 2
  have r3 := cell_blk HR2.out 3
  have f0 := blk_free HR2.out 0
  have f1 := blk_free HR2.out 1
  have f2 := blk_free HR2.out 2
  have f3 := blk_free HR2.out 3
  clear HMM
  go_wp2_with fail
  have gf := grow_four wb ro (.int .i64 146097) (.int .i64 1600) (.slice (some ⟨g, 0, none⟩) 1600 1600) (.slice none 0 0)
  have hrs := blk_four HR2.out (.int .i64 146097) (.int .i64 1600) (.slice (some ⟨g, 0, none⟩) 1600 1600) (.slice none 0 0)
  generalize (((wb.setCell ⟨ro, 0, none⟩ (.int .i64 146097)).setCell ⟨ro, 1, none⟩ (.int .i64 1600)).setCell ⟨ro, 2, none⟩ (.slice (some ⟨g, 0, none⟩) 1600 1600)).setCell ⟨ro, 3, none⟩ (.slice none 0 0) = wf at gf hrs ⊢
  have hbw : Below w.heap.size w wf := (HBA.out.trans (HKB.out.mono HBA.out.size)).grown gf (Nat.le_trans HBA.out.size HKB.out.size) (fun q z => by cases z; exact Nat.le_of_eq HRW.out)
  clear r0 r1 r2 r3 f0 f1 f2 f3
  have r0 : wf.cell? ⟨ro, 0, none⟩ = some (.int .i64 146097) := cell_blk hrs 0
  have r1 : wf.cell? ⟨ro, 1, none⟩ = some (.int .i64 1600) := cell_blk hrs 1
  have r2 : wf.cell? ⟨ro, 2, none⟩ = some (.slice (some ⟨g, 0, none⟩) 1600 1600) := cell_blk hrs 2
  have r3 : wf.cell? ⟨ro, 3, none⟩ = some (.slice none 0 0) := cell_blk hrs 3
  exact bodyPost_ret (v := .agg #[.int .i64 146097, .int .i64 1600, .slice (some ⟨g, 0, none⟩) 1600 1600, .slice none 0 0]) (by simp [results, Tryd.results46, go_sem, r0, r1, r2, r3]) rfl ⟨g, rfl, fun W hW => (((HG.out.1.off gf (by have := HZA.out; omega) HG.out.2).mono (by have := HZA.out; have := HRW.out; omega)).btw hW (by have := HG.out.2; have := HZA.out; have := HRW.out; omega)).co (by decide), hbw⟩
set_option maxHeartbeats 1000000 in
theorem made_year (w : World) (hT : Tab w) : Calls Tryd.prog 46 #[.string ⟨#[121, 101, 97, 114]⟩] w fun e w' => MadeOut 5 w e w' := by
  have t0 : ((⟨#[121, 101, 97, 114]⟩ : ByteArray) == ⟨#[119, 101, 101, 107]⟩) = false := by decide
  have t1 : ((⟨#[121, 101, 97, 114]⟩ : ByteArray) == ⟨#[109, 111, 110, 116, 104]⟩) = false := by decide
  have t2 : ((⟨#[121, 101, 97, 114]⟩ : ByteArray) == ⟨#[113, 117, 97, 114, 116, 101, 114]⟩) = false := by decide
  have t3 : ((⟨#[121, 101, 97, 114]⟩ : ByteArray) == ⟨#[121, 101, 97, 114]⟩) = true := by decide
  obtain ⟨ro, hro⟩ : ∃ ro, w.heap.size = ro := ⟨_, rfl⟩
  obtain ⟨wa, hwa⟩ : ∃ wa, w.alloc (.cells #[.int .i64 0, .int .i64 0, .slice none 0 0, .slice none 0 0] 29) = wa := ⟨_, rfl⟩
  have HRO : Hid (wa.heap[ro]? = some (.cells #[.int .i64 0, .int .i64 0, .slice none 0 0, .slice none 0 0] 29 (0, 0))) := Lib.hid (by rw [← hwa, ← hro, al_new])
  have HBA : Hid (Below w.heap.size w wa) := Lib.hid (by rw [← hwa]; exact (Below.refl _ w).alloc (Nat.le_refl _) _)
  have HZA : Hid (wa.heap.size = ro + 1) := Lib.hid (by rw [← hwa, ← hro]; simp)
  have HRW := Lib.hid hro
  have HMM := Lib.hid (months_any 12 400 (by decide) (by decide) (by decide) (by decide) wa (hT.keep HBA.out))
  rw [dayS_all] at HMM
  have HMM : Hid (Calls Tryd.prog 83 #[.int .i64 12] wa fun e w' => ∃ g, e = .returned (.agg #[.int .i64 146097, .int .i64 400, .slice (some ⟨g, 0, none⟩) 400 400, .slice none 0 0]) ∧ Hid (MonAt wa.heap.size 12 400 w' g 400 ∧ wa.heap.size ≤ g) ∧ Hid (Below wa.heap.size wa w')) := HMM
  clear hT
  go_enter Tryd.func46, Tryd.ntmps46
  go_upto_region 9 with fail
  clear hwa hro
  go_wp2_with fail
  (with_reducible refine HMM.out.mono ?_)
  rintro e wb ⟨g, rfl, HG, HKB⟩
  have HR2 := Lib.hid ((HKB.out.block ro (by have := HZA.out; omega)).trans HRO.out)
  have r0 := cell_blk HR2.out 0
  have r1 := cell_blk HR2.out 1
  have r2 := cell_blk HR2.out 2
  have r3 := cell_blk HR2.out 3
  have f0 := blk_free HR2.out 0
  have f1 := blk_free HR2.out 1
  have f2 := blk_free HR2.out 2
  have f3 := blk_free HR2.out 3
  clear HMM
  go_wp2_with fail
  have gf := grow_four wb ro (.int .i64 146097) (.int .i64 400) (.slice (some ⟨g, 0, none⟩) 400 400) (.slice none 0 0)
  have hrs := blk_four HR2.out (.int .i64 146097) (.int .i64 400) (.slice (some ⟨g, 0, none⟩) 400 400) (.slice none 0 0)
  generalize (((wb.setCell ⟨ro, 0, none⟩ (.int .i64 146097)).setCell ⟨ro, 1, none⟩ (.int .i64 400)).setCell ⟨ro, 2, none⟩ (.slice (some ⟨g, 0, none⟩) 400 400)).setCell ⟨ro, 3, none⟩ (.slice none 0 0) = wf at gf hrs ⊢
  have hbw : Below w.heap.size w wf := (HBA.out.trans (HKB.out.mono HBA.out.size)).grown gf (Nat.le_trans HBA.out.size HKB.out.size) (fun q z => by cases z; exact Nat.le_of_eq HRW.out)
  clear r0 r1 r2 r3 f0 f1 f2 f3
  have r0 : wf.cell? ⟨ro, 0, none⟩ = some (.int .i64 146097) := cell_blk hrs 0
  have r1 : wf.cell? ⟨ro, 1, none⟩ = some (.int .i64 400) := cell_blk hrs 1
  have r2 : wf.cell? ⟨ro, 2, none⟩ = some (.slice (some ⟨g, 0, none⟩) 400 400) := cell_blk hrs 2
  have r3 : wf.cell? ⟨ro, 3, none⟩ = some (.slice none 0 0) := cell_blk hrs 3
  exact bodyPost_ret (v := .agg #[.int .i64 146097, .int .i64 400, .slice (some ⟨g, 0, none⟩) 400 400, .slice none 0 0]) (by simp [results, Tryd.results46, go_sem, r0, r1, r2, r3]) rfl ⟨g, rfl, fun W hW => (((HG.out.1.off gf (by have := HZA.out; omega) HG.out.2).mono (by have := HZA.out; have := HRW.out; omega)).btw hW (by have := HG.out.2; have := HZA.out; have := HRW.out; omega)).co (by decide), hbw⟩
theorem made_any (i : Nat) (hi : i < 6) (w : World) (hT : Tab w) : Calls Tryd.prog 46 #[.string (nm i)] w fun e w' => MadeOut i w e w' := by
  match i, hi with
  | 0, _ => exact made_tick w
  | 1, _ => exact made_day w
  | 2, _ => exact made_week w
  | 3, _ => exact made_month w hT
  | 4, _ => exact made_quarter w hT
  | 5, _ => exact made_year w hT
end Go.Proofs.YtacpcokmgahjaaaDoor
