/- Contracts: right, New, Made of basis; core of the law. -/
import Derived.Test.YtacpcokmgahjaaaDoorB7
import Derived.LaidEqlPtr
namespace Go.Proofs.YtacpcokmgahjaaaDoor
set_option linter.unusedVariables false
set_option linter.unusedSimpArgs false
open Go.ChangeShapes Go.WideShapes Go.ChangeAt Go.RowKit
theorem eql_ptr (a : Addr) (W : World) : (binOp .eql 22 (.pointer (some a)) (.pointer (some a))).run Tryd.prog W = .ok (.bool true) W := by
  cases hi : Tryd.prog.info? 59 with
  | none =>
    have hq : (Tryd.prog.info? 59).isSome = true := by kernel_rfl
    rw [hi] at hq; cases hq
  | some j => exact run_eql_ptr_same W a Tryd.underlying22 hi
theorem eql_nil (a : Addr) (W : World) : (binOp .eql 22 (.pointer none) (.pointer (some a))).run Tryd.prog W = .ok (.bool false) W := by
  have h : ∀ d : Nat, (Op.equalIn (d + 1) 22 (.pointer none) (.pointer (some a))).run Tryd.prog W = .ok false W := fun d => by
    simp [Op.equalIn, run_underlying Tryd.underlying22]
  simp only [binOp]
  simp [Op.equal, Op.maxDepth, h 9999]
set_option maxRecDepth 100000 in
theorem right_yes (w : World) (c : Nat) (x : Value) (h : w.heap[c]? = some (.cells #[.pointer (some ⟨c, 0, none⟩), x] 59 (0, 0))) :
    Calls Tryd.prog 21 #[.pointer (some ⟨c, 0, none⟩)] w fun e w' => e = .returned (.bool true) ∧ w = w' := by
  have e0 : w.cell? ⟨c, 0, none⟩ = some (.pointer (some ⟨c, 0, none⟩)) := cell_blk h 0
  have hp := eql_ptr (⟨c, 0, none⟩ : Addr)
  clear h
  go_enter Tryd.func21, Tryd.ntmps21
  go_wp2
  go_returns
  exact ⟨rfl, rfl⟩
set_option maxRecDepth 100000 in
theorem right_nil (w : World) : Calls Tryd.prog 21 #[.pointer none] w fun e w' => e = .returned (.bool false) ∧ w = w' := by
  go_enter Tryd.func21, Tryd.ntmps21
  go_wp2
  go_returns
  exact ⟨rfl, rfl⟩
set_option maxRecDepth 100000 in
theorem right_zero (w : World) (c : Nat) (x : Value) (h : w.heap[c]? = some (.cells #[.pointer none, x] 59 (0, 0))) :
    Calls Tryd.prog 21 #[.pointer (some ⟨c, 0, none⟩)] w fun e w' => e = .returned (.bool false) ∧ w = w' := by
  have e0 : w.cell? ⟨c, 0, none⟩ = some (.pointer none) := cell_blk h 0
  have hp := eql_nil (⟨c, 0, none⟩ : Addr)
  clear h
  go_enter Tryd.func21, Tryd.ntmps21
  go_wp2
  go_returns
  exact ⟨rfl, rfl⟩
theorem made_yes (w : World) (m c k g : Nat) (st : Nat → Bool) (n : Int) (hC : Cd w m c k g st n) (n0 : 0 ≤ n) (n1 : n ≤ 1000) :
    Calls Tryd.prog 14 #[.pointer (some ⟨c, 0, none⟩)] w fun e w' => e = .returned (.int .i64 n) ∧ w = w' := by
  have e1 := cell_blk hC.cb 1
  have HR := Lib.hid (right_yes w c _ hC.cb)
  have HL := Lib.hid (made_load ⟨k, 1, none⟩ n w (cell_blk hC.kb 1))
  clear hC
  go_enter Tryd.func14, Tryd.ntmps14
  go_wp2_with fail
  (with_reducible refine HR.out.mono ?_)
  rintro e w2 ⟨rfl, rfl⟩
  go_wp2_with fail
  (with_reducible refine HL.out.mono ?_)
  rintro e w2 ⟨rfl, rfl⟩
  go_wp2
  go_returns
  exact ⟨rfl, rfl⟩
theorem made_no (w : World) (p : Value) (hr : Calls Tryd.prog 21 #[p] w fun e w' => e = .returned (.bool false) ∧ w = w') :
    Calls Tryd.prog 14 #[p] w fun e w' => e = .returned (.int .i64 0) ∧ w = w' := by
  have HR := Lib.hid hr
  clear hr
  go_enter Tryd.func14, Tryd.ntmps14
  go_wp2_with fail
  (with_reducible refine HR.out.mono ?_)
  rintro e w2 ⟨rfl, rfl⟩
  go_wp2
  go_returns
  exact ⟨rfl, rfl⟩
theorem info103 : (Tryd.prog.info? 103).map (fun i => (i.zero.map Value.cells, i.size, i.bytes)) = some (some #[.int .u32 0, .int .i32 0, .int .u32 0, .int .i64 0, .int .i64 0, .slice none 0 0, .slice none 0 0], 7, 80) := by kernel_rfl
/-- The cells of a new store. -/
def newCur : Array Value := madeCells #[.int .u32 0, .int .i32 0, .int .u32 0, .int .i64 0, .int .i64 0, .slice none 0 0, .slice none 0 0] 42
theorem newCur_size : newCur.size = 42 := by unfold newCur; rw [size_madeCells]
theorem newCur_at (i : Nat) (hi : i < 6) : newCur[i * 7]? = some (.int .u32 0) ∧ newCur[i * 7 + 1]? = some (.int .i32 0) := by
  match i, hi with
  | 0, _ => exact ⟨by kernel_rfl, by kernel_rfl⟩
  | 1, _ => exact ⟨by kernel_rfl, by kernel_rfl⟩
  | 2, _ => exact ⟨by kernel_rfl, by kernel_rfl⟩
  | 3, _ => exact ⟨by kernel_rfl, by kernel_rfl⟩
  | 4, _ => exact ⟨by kernel_rfl, by kernel_rfl⟩
  | 5, _ => exact ⟨by kernel_rfl, by kernel_rfl⟩
theorem new_any (w : World) : Calls Tryd.prog 8 #[] w fun e w' => ∃ c k g, e = .returned (.pointer (some ⟨c, 0, none⟩)) ∧ Hid (Cd w' w'.heap.size c k g (fun _ => false) 0) ∧ Hid (w.heap.size ≤ c ∧ w.heap.size ≤ k ∧ w.heap.size < g) ∧ Hid (Below w.heap.size w w') := by
  have hmk : ∀ W : World, (Instr.makeSlice 61 (.int .i64 6) (.int .i64 6)).run Tryd.prog W = .ok (.slice (some ⟨W.heap.size, 0, none⟩) 6 6) (W.alloc (.cells newCur 103)) := fun W => by
    have hq := info103
    cases hi : Tryd.prog.info? 103 with
    | none => rw [hi] at hq; cases hq
    | some i =>
      rw [hi] at hq
      simp only [Option.map_some, Option.some.injEq, Prod.mk.injEq] at hq
      obtain ⟨hz, h1, h2⟩ := hq
      cases hzz : i.zero with
      | none => rw [hzz] at hz; cases hz
      | some z =>
        rw [hzz] at hz
        simp only [Option.map_some, Option.some.injEq] at hz
        have := run_makeSlice (P := Tryd.prog) W 61 103 i z Tryd.underlying61 hi hzz .i64 .i64 6 6 (by omega) (Int.le_refl _) (by rw [h1]; decide) (by rw [h2]; omega) (by omega)
        rw [hz, h1] at this
        exact this
  go_enter Tryd.func8, Tryd.ntmps8
  go_wp2_with fail
  (with_reducible refine (names_any _).mono ?_)
  rintro e w1 ⟨rfl, hw1⟩
  have K1 : Hid (Below w.heap.size w w1) := Lib.hid (by rw [hw1]; exact (Below.refl _ w).alloc (Nat.le_refl _) _)
  have Z1 : Hid (w1.heap.size = w.heap.size + 1) := Lib.hid (by rw [hw1]; simp)
  clear hw1
  go_upto_region 2 with fail
  obtain ⟨g, hg⟩ : ∃ g, w1.heap.size = g := ⟨_, rfl⟩
  obtain ⟨w3, hw3⟩ : ∃ w3, ((w1.alloc (.cells newCur 103)).alloc (.cells #[.slice (some ⟨w1.heap.size, 0, none⟩) 6 6, .int .i64 0] 68)).alloc (.cells #[.pointer none, .pointer (some ⟨w1.heap.size + 1, 0, none⟩)] 59) = w3 := ⟨_, rfl⟩
  have b1 : w3.heap[g]? = some (.cells newCur 103 (0, 0)) := by rw [← hw3, al_old _ _ (by simp; omega), al_old _ _ (by simp; omega), ← hg, al_new]
  have b2 : w3.heap[g + 1]? = some (.cells #[.slice (some ⟨g, 0, none⟩) 6 6, .int .i64 0] 68 (0, 0)) := by rw [← hw3, al_old _ _ (by simp; omega), show g + 1 = (w1.alloc (.cells newCur 103)).heap.size by simp; omega, al_new, hg]
  have b3 : w3.heap[g + 1 + 1]? = some (.cells #[.pointer none, .pointer (some ⟨g + 1, 0, none⟩)] 59 (0, 0)) := by rw [← hw3, show g + 1 + 1 = ((w1.alloc (.cells newCur 103)).alloc (.cells #[.slice (some ⟨w1.heap.size, 0, none⟩) 6 6, .int .i64 0] 68)).heap.size by simp; omega, al_new, hg]
  have K3 : Below w1.heap.size w1 w3 := by rw [← hw3]; exact (((Below.refl _ w1).alloc (Nat.le_refl _) _).alloc (by simp) _).alloc (by simp; omega) _
  rw [hw3, hg]
  have HB1 := Lib.hid b1
  have HB2 := Lib.hid b2
  have HB3 := Lib.hid b3
  have HK3 := Lib.hid K3
  have HG := Lib.hid hg
  have e0 := cell_blk b3 0
  have f0 := blk_free b3 0
  clear b1 b2 b3 K3 hw3 hg hmk
  go_wp2_with fail
  have gr := grow_cell w3 ⟨g + 1 + 1, 0, none⟩ (.pointer (some ⟨g + 1 + 1, 0, none⟩))
  have hs := set_block HB3.out 0 (.pointer (some ⟨g + 1 + 1, 0, none⟩))
  generalize w3.setCell ⟨g + 1 + 1, 0, none⟩ (.pointer (some ⟨g + 1 + 1, 0, none⟩)) = w4 at gr hs ⊢
  have z1 := Z1.out
  have zg := HG.out
  have l3 := (Array.getElem?_eq_some_iff.1 HB3.out).1
  have s4 := gr.size
  go_returns
  refine ⟨g + 1 + 1, g + 1, g, rfl, Lib.hid ⟨Nat.le_refl _, hs, (gr.block (g + 1) (by omega) (fun z => by have : g + 1 = g + 1 + 1 := Option.some.inj z; omega)).trans HB2.out, newCur, (gr.block g (by omega) (fun z => by have : g = g + 1 + 1 := Option.some.inj z; omega)).trans HB1.out, newCur_size, fun i hi => ⟨(fun h => by cases h), fun _ => newCur_at i hi⟩⟩, Lib.hid (by omega), Lib.hid ?_⟩
  exact (K1.out.trans (HK3.out.mono K1.out.size)).grown gr (by have := HK3.out.size; omega) (fun q z => by cases z; show w.heap.size ≤ g + 1 + 1; omega)
end Go.Proofs.YtacpcokmgahjaaaDoor
