/- The document's own: Expr. -/
import Derived.Test.YtimjendkpjojoaaDoorX17
import Derived.Test.YtimjendkpjojoaaDoorE24
namespace Go.Proofs.YtimjendkpjojoaaDoor
set_option linter.unusedVariables false
set_option linter.unusedSimpArgs false
open Go.ChangeShapes Go.WideShapes Go.ChangeAt Go.RowKit

set_option maxRecDepth 8000 in
set_option maxHeartbeats 2000000 in
theorem rexpr_any (n : Nat) (v : Value) (x : Lx.Ex) (w : World) (hE : ExAt w n v (tour x)) (hn : n ≤ 1048576) (hl : (tour x 1).length ≤ 1048576) (r : Bool) (hr : r = true ↔ RightL (tour x 1)) :
    Calls Tryd.prog 8 #[v] w fun e w' => e = .returned (.tuple #[.string (if r = true then ⟨(Lx.lineX x).toArray⟩ else ⟨#[]⟩), .int .i64 (if r = true then 0 else 110)]) ∧ Below w.heap.size w w' := by
  have HR := Lib.hid (fun W (q : Below w.heap.size w W) => rright_any n v (tour x) W (hE.keep q) hn hl r hr)
  have HLN : Hid (∀ W, Below w.heap.size w W → r = true → Calls Tryd.prog 20 #[v] W fun e w' => e = .returned (.string ⟨(Lx.lineX x).toArray⟩) ∧ Below W.heap.size W w') := Lib.hid (fun W q e => rline_any 40 x n v W (hE.keep q) (right_len hE (hr.1 e)).1 (right_len hE (hr.1 e)).2)
  obtain ⟨p, an, nn, nc, aa, ac, rfl, hh⟩ := hE.head
  have HE := Lib.hid hE
  obtain ⟨X, hX⟩ : ∃ X : ByteArray, ⟨(Lx.lineX x).toArray⟩ = X := ⟨_, rfl⟩
  rw [hX] at HLN ⊢
  clear hX hE hr hl hn hh
  obtain ⟨b, hb⟩ : ∃ z, w.heap.size = z := ⟨_, rfl⟩
  obtain ⟨w1, hw1⟩ : ∃ z, w.alloc (.cells #[.int .u8 p.op, .string p.nm, .slice an nn nc, .slice aa p.k ac] 25) = z := ⟨_, rfl⟩
  have HX : Hid (Bq w w1 b #[.int .u8 p.op, .string p.nm, .slice an nn nc, .slice aa p.k ac]) := Lib.hid ⟨by rw [← hw1]; exact (Below.refl _ w).alloc (Nat.le_refl _) _, by rw [← hw1, ← hb, al_new]⟩
  have e0 := cell_blk HX.out.box 0
  have e1 := cell_blk HX.out.box 1
  have e2 := cell_blk HX.out.box 2
  have e3 := cell_blk HX.out.box 3
  cases r
  · simp only [Bool.false_eq_true, if_false]
    unfold pv at *
    go_enter Tryd.func8, Tryd.ntmps8
    go_upto_region 1 with fail
    clear hw1 hb
    go_wp2_with fail
    (with_reducible refine (HR.out w1 HX.out.bw).mono ?_)
    rintro e w2 ⟨rfl, q⟩
    have HX := Lib.hid (HX.out.keep q)
    clear q
    go_wp2_with fail
    go_returns
    exact ⟨rfl, HX.out.bw⟩
  · have HLN2 : Hid (∀ W, Below w.heap.size w W → Calls Tryd.prog 20 #[pv p an nn nc aa ac] W fun e w' => e = .returned (.string X) ∧ Below W.heap.size W w') := Lib.hid (fun W q => HLN.out W q (by trivial))
    clear HLN
    simp only [if_true]
    unfold pv at *
    go_enter Tryd.func8, Tryd.ntmps8
    go_upto_region 1 with fail
    clear hw1 hb
    go_wp2_with fail
    (with_reducible refine (HR.out w1 HX.out.bw).mono ?_)
    rintro e w2 ⟨rfl, q⟩
    have HX := Lib.hid (HX.out.keep q)
    clear q e0 e1 e2 e3
    have e0 := cell_blk HX.out.box 0
    have e1 := cell_blk HX.out.box 1
    have e2 := cell_blk HX.out.box 2
    have e3 := cell_blk HX.out.box 3
    go_wp2_with fail
    (with_reducible refine (HLN2.out w2 HX.out.bw).mono ?_)
    rintro e w3 ⟨rfl, q⟩
    have HX := Lib.hid (HX.out.keep q)
    clear q e0 e1 e2 e3
    go_wp2_with fail
    go_returns
    exact ⟨rfl, HX.out.bw⟩
end Go.Proofs.YtimjendkpjojoaaDoor
