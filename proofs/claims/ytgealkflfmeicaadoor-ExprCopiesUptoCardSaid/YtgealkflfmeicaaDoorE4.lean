/- Count. -/
import Derived.Test.YtgealkflfmeicaaDoorE3
import Derived.Shelf.Abstract
namespace Go.Proofs.YtgealkflfmeicaaDoor
set_option linter.unusedVariables false
set_option linter.unusedSimpArgs false
open Go.ChangeShapes Go.WideShapes Go.ChangeAt Go.RowKit
def cntW (c : Int) (p : Pt) (d : Int) : Int × Bool := (wrap64 (c + 1), true)
theorem cntW_run : ∀ (l : List (Pt × Int)) (c : Int), 0 ≤ c → c + l.length ≤ 9223372036854775807 → run cntW c l = (c + l.length, true)
  | [], c, _, _ => by simp [run]
  | x :: r, c, h0, h1 => by
    have h2 : c + 1 + (r.length : Int) ≤ 9223372036854775807 := by simp at h1; omega
    have hw : wrap64 (c + 1) = c + 1 := by unfold wrap64; omega
    rw [run_t rfl]
    show run cntW (wrap64 (c + 1)) r = _
    rw [hw, cntW_run r (c + 1) (by omega) h2]
    simp; omega
/-- A cell of a number, of a visitor's own. -/
structure CellI (w0 : World) (nb : Nat) (c : Int) (W : World) : Prop where
  bw : Below w0.heap.size w0 W
  lo : w0.heap.size ≤ nb
  cell : W.heap[nb]? = some (.cells #[.int .i64 c] 3 (0, 0))
theorem CellI.keep {w0 W W' : World} {nb : Nat} {c : Int} (h : CellI w0 nb c W) (q : Below W.heap.size W W') : CellI w0 nb c W' :=
  ⟨h.bw.trans (q.mono h.bw.size), h.lo, (q.block nb (Array.getElem?_eq_some_iff.1 h.cell).1).trans h.cell⟩
theorem CellI.put {w0 W : World} {nb : Nat} {c : Int} (h : CellI w0 nb c W) (x : Int) : CellI w0 nb x (W.setCell ⟨nb, 0, none⟩ (.int .i64 x)) :=
  ⟨h.bw.setCell (p := ⟨nb, 0, none⟩) h.lo _, h.lo, by rw [set_block h.cell]; rfl⟩
set_option maxHeartbeats 1000000 in
theorem cnt_step (w0 : World) (nb : Nat) : StepOk cntW (CellI w0 nb) 28 #[.pointer (some ⟨nb, 0, none⟩)] w0 (fun _ => 0) 1000000000000 := by
  intro c W p an nn nc aa ac d hh d1 d2 hI _
  show Calls Tryd.prog 28 #[.agg #[.int .u8 p.op, .string p.nm, .slice an nn nc, .slice aa p.k ac], .int .i64 d, .pointer (some ⟨nb, 0, none⟩)] W _
  obtain ⟨w1, hw1⟩ : ∃ z, W.alloc (.cells #[.int .u8 p.op, .string p.nm, .slice an nn nc, .slice aa p.k ac] 25) = z := ⟨_, rfl⟩
  have KA : Below W.heap.size W w1 := by rw [← hw1]; exact (Below.refl _ W).alloc (Nat.le_refl _) _
  have HI := Lib.hid (hI.keep KA)
  have KK := Lib.hid (Kp.of_below KA)
  clear KA hI hh
  have e0 := cell_blk HI.out.cell 0
  have f0 := blk_free HI.out.cell 0
  go_enter Tryd.func28, Tryd.ntmps28
  go_wp2
  go_returns
  refine ⟨rfl, Lib.hid ?_, ?_⟩
  · exact HI.out.put (wrap64 (c + 1))
  · exact Lib.hid (KK.out.trans (Kp.set HI.out.cell (by decide) (by decide) 0 _))
theorem enters28 : ∀ (args : Array Value) (w : World), (callFunc 28 args).run Tryd.prog w = .ok (.enter 28 args) w := enters_of Tryd.func28 (by kernel_rfl) rfl
set_option maxHeartbeats 1000000 in
theorem count_any (n : Nat) (v : Value) (F : Tour) (w : World) (hF : ExAt w n v F) (hn : n ≤ 4611686018427387000) (hl : (F 1).length ≤ 1000000000000) :
    Calls Tryd.prog 12 #[v] w fun e w' => e = .returned (.int .i64 ((F 1).length : Int)) ∧ Below w.heap.size w w' := by
  obtain ⟨nb, hnb⟩ : ∃ z, w.heap.size + 1 = z := ⟨_, rfl⟩
  have HV := Lib.hid (fun s W h => visit_any cntW (CellI w nb) 28 #[.pointer (some ⟨nb, 0, none⟩)] w (fun s W h => h.bw) (fun s W W' h q => h.keep q) (fun _ => 0) 1000000000000 (fun _ _ _ => Nat.zero_le _) (cnt_step w nb) enters28 n v F hF hn s W (by omega) h)
  obtain ⟨p, an, nn, nc, aa, ac, rfl, _⟩ := hF.head
  have HR := Lib.hid (cntW_run (F 1) 0 (by omega) (by omega))
  obtain ⟨L, hL⟩ : ∃ L, (F 1).length = L := ⟨_, rfl⟩
  rw [hL] at HR ⊢ hl
  obtain ⟨bx, hbx⟩ : ∃ z, w.heap.size = z := ⟨_, rfl⟩
  clear hF
  go_enter Tryd.func12, Tryd.ntmps12
  go_upto_region 2 with fail
  obtain ⟨w1, hw1⟩ : ∃ z, (w.alloc (.cells #[.int .u8 p.op, .string p.nm, .slice an nn nc, .slice aa p.k ac] 25)).alloc (.cells #[.int .i64 0] 3) = z := ⟨_, rfl⟩
  have X1 : Hid (w1.heap[bx]? = some (.cells #[.int .u8 p.op, .string p.nm, .slice an nn nc, .slice aa p.k ac] 25 (0, 0))) := Lib.hid (by rw [← hw1, al_old _ _ (by simp; omega), ← hbx, al_new])
  have HI : Hid (CellI w nb 0 w1) := Lib.hid ⟨by rw [← hw1]; exact ((Below.refl _ w).alloc (Nat.le_refl _) _).alloc (by simp) _, by omega, by rw [← hw1, show nb = (w.alloc (.cells #[.int .u8 p.op, .string p.nm, .slice an nn nc, .slice aa p.k ac] 25)).heap.size by simp; omega, al_new]⟩
  have hn2 : nb = bx + 1 := by omega
  have HC := Lib.hid (HV.out 0 w1 HI.out)
  rw [HR.out] at HC
  subst hn2
  clear HV HR hL hnb
  rw [hw1]
  have BX := Lib.hid HI.out.bw
  have e0 := cell_blk X1.out 0
  have e1 := cell_blk X1.out 1
  have e2 := cell_blk X1.out 2
  have e3 := cell_blk X1.out 3
  clear hw1 hbx HI
  go_wp2_with fail
  (with_reducible refine HC.out.mono ?_)
  rintro e w3 ⟨rfl, HI, K3⟩
  have n0 := cell_blk HI.out.cell 0
  have HF := Lib.hid HI.out.bw
  clear HC K3 e0 e1 e2 e3 HI BX
  go_wp2
  go_returns
  exact ⟨ret_int (by simp), HF.out⟩
end Go.Proofs.YtgealkflfmeicaaDoor
