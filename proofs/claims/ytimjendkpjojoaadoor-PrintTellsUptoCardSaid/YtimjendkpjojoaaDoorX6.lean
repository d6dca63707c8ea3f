/- print: is a range right, is an expression. -/
import Derived.Test.YtimjendkpjojoaaDoorY6
import Derived.Test.YtimjendkpjojoaaDoorE27
import Derived.Test.YtimjendkpjojoaaDoorQ9
namespace Go.Proofs.YtimjendkpjojoaaDoor
set_option linter.unusedVariables false
set_option linter.unusedSimpArgs false
open Go.ChangeShapes Go.WideShapes Go.ChangeAt Go.RowKit

theorem ret_bool {a b : Bool} (h : a = b) : Ending.returned (.bool a) = .returned (.bool b) := by rw [h]
def rgZ (r : Lx.Rg) : Prop := r = ⟨0, 0, false, false⟩
theorem prange_any (r : Lx.Rg) (b : Bool) (w : World) (k : Bool) (hk : k = true ↔ if b = true then (r.hl = false → r.low = 0) ∧ (r.hh = false → r.high = 0) else r = ⟨0, 0, false, false⟩) :
    Calls Tryd.prog 30 #[.agg #[.int .i64 r.low, .int .i64 r.high, .bool r.hl, .bool r.hh], .bool b] w fun e w' => e = .returned (.bool k) ∧ Below w.heap.size w w' := by
  obtain ⟨lo, hi, hl, hh⟩ := r
  dsimp only at hk ⊢
  obtain ⟨bx, hbx⟩ : ∃ z, w.heap.size = z := ⟨_, rfl⟩
  obtain ⟨w1, hw1⟩ : ∃ z, w.alloc (.cells #[.int .i64 lo, .int .i64 hi, .bool hl, .bool hh] 28) = z := ⟨_, rfl⟩
  have KA : Hid (Below w.heap.size w w1) := Lib.hid (by rw [← hw1]; exact (Below.refl _ w).alloc (Nat.le_refl _) _)
  have HX : w1.heap[bx]? = some (.cells #[.int .i64 lo, .int .i64 hi, .bool hl, .bool hh] 28 (0, 0)) := by rw [← hw1, ← hbx, al_new]
  have e0 := cell_blk HX 0
  have e1 := cell_blk HX 1
  have e2 := cell_blk HX 2
  have e3 := cell_blk HX 3
  have HK := Lib.hid hk
  clear HX hk
  cases b
  · by_cases z1 : lo = 0 ∧ hi = 0 ∧ hl = false ∧ hh = false
    · obtain ⟨rfl, rfl, rfl, rfl⟩ := z1
      obtain rfl : k = true := HK.out.2 (by simp)
      clear HK
      go_enter Tryd.func30, Tryd.ntmps30
      go_upto_region 1 with fail
      clear hw1 hbx
      go_wp2_with fail
      go_returns
      exact ⟨rfl, KA.out⟩
    · obtain rfl : k = false := by
        have := HK.out
        cases k with
        | false => rfl
        | true => exact absurd (this.1 rfl) (by intro q; simp at q; exact z1 q)
      clear HK
      have HB : Hid (¬ (lo = 0 ∧ hi = 0 ∧ hl = false ∧ hh = false)) := Lib.hid z1
      clear z1
      go_enter Tryd.func30, Tryd.ntmps30
      go_upto_region 1 with fail
      clear hw1 hbx
      go_wp2_with fail
      all_goals (go_returns; exact ⟨ret_bool (by first | rfl | (have := HB.out; cases hl <;> cases hh <;> simp_all)), KA.out⟩)
  · obtain rfl : k = ((hl || decide (lo = 0)) && (hh || decide (hi = 0))) := by
      have := HK.out
      cases k <;> cases hl <;> cases hh <;> simp_all
    clear HK
    cases hl
    · by_cases z1 : lo = 0
      · subst z1
        cases hh
        · by_cases z2 : hi = 0
          · subst z2
            go_enter Tryd.func30, Tryd.ntmps30
            go_upto_region 1 with fail
            clear hw1 hbx
            go_wp2_with fail
            go_returns
            exact ⟨rfl, KA.out⟩
          · have z3 : (hi == 0) = false := by simpa using z2
            go_enter Tryd.func30, Tryd.ntmps30
            go_upto_region 1 with fail
            clear hw1 hbx
            go_wp2_with fail
            go_returns
            exact ⟨ret_bool (by simp [z2]), KA.out⟩
        · go_enter Tryd.func30, Tryd.ntmps30
          go_upto_region 1 with fail
          clear hw1 hbx
          go_wp2_with fail
          go_returns
          exact ⟨rfl, KA.out⟩
      · have z3 : (lo == 0) = false := by simpa using z1
        go_enter Tryd.func30, Tryd.ntmps30
        go_upto_region 1 with fail
        clear hw1 hbx
        go_wp2_with fail
        go_returns
        exact ⟨ret_bool (by simp [z1]), KA.out⟩
    · cases hh
      · by_cases z2 : hi = 0
        · subst z2
          go_enter Tryd.func30, Tryd.ntmps30
          go_upto_region 1 with fail
          clear hw1 hbx
          go_wp2_with fail
          go_returns
          exact ⟨rfl, KA.out⟩
        · have z3 : (hi == 0) = false := by simpa using z2
          go_enter Tryd.func30, Tryd.ntmps30
          go_upto_region 1 with fail
          clear hw1 hbx
          go_wp2_with fail
          go_returns
          exact ⟨ret_bool (by simp [z2]), KA.out⟩
      · go_enter Tryd.func30, Tryd.ntmps30
        go_upto_region 1 with fail
        clear hw1 hbx
        go_wp2_with fail
        go_returns
        exact ⟨rfl, KA.out⟩
theorem prexpr_any (n : Nat) (v : Value) (x : Lx.Ex) (b : Bool) (w : World) (hT : Tabn w) (hE : ExAt w n v (tour x)) (k : Bool) (hk : k = true ↔ if b = true then RightL (tour x 1) else x = Lx.leaf []) :
    Calls Tryd.prog 28 #[v, .bool b] w fun e w' => e = .returned (.bool k) ∧ Below w.heap.size w w' := by
  obtain ⟨p, an, nn, nc, aa, ac, rfl, hh⟩ := hE.head
  obtain ⟨bx, hbx⟩ : ∃ z, w.heap.size = z := ⟨_, rfl⟩
  obtain ⟨w1, hw1⟩ : ∃ z, w.alloc (.cells #[.int .u8 p.op, .string p.nm, .slice an nn nc, .slice aa p.k ac] 25) = z := ⟨_, rfl⟩
  have KA : Hid (Below w.heap.size w w1) := Lib.hid (by rw [← hw1]; exact (Below.refl _ w).alloc (Nat.le_refl _) _)
  have HX : w1.heap[bx]? = some (.cells #[.int .u8 p.op, .string p.nm, .slice an nn nc, .slice aa p.k ac] 25 (0, 0)) := by rw [← hw1, ← hbx, al_new]
  have e0 := cell_blk HX 0
  have e1 := cell_blk HX 1
  have e2 := cell_blk HX 2
  have e3 := cell_blk HX 3
  cases b
  · have HS := Lib.hid (same_any n _ (tour x) 1 _ (tour (Lx.leaf [])) w1 (hE.keep KA.out) (ex_leaf' w1 [] (Nat.zero_le _)) k (by
      rw [hk, if_neg (by decide)]
      exact ⟨fun h => by rw [h], fun h => (tour_inj x (Lx.leaf []) 0 [] [] (by rw [h])).1⟩))
    clear HX hk hE hT hh
    go_enter Tryd.func28, Tryd.ntmps28
    go_upto_region 1 with fail
    clear hw1 hbx
    go_wp2_with fail
    (with_reducible refine HS.out.mono ?_)
    rintro e w2 ⟨rfl, q⟩
    go_wp2_with fail
    go_returns
    exact ⟨rfl, KA.out.trans (q.mono KA.out.size)⟩
  · have HS := Lib.hid (right_any n _ (tour x) w1 (hT.keep KA.out) (hE.keep KA.out) k (by rw [hk, if_pos rfl]))
    clear HX hk hE hT hh
    go_enter Tryd.func28, Tryd.ntmps28
    go_upto_region 1 with fail
    clear hw1 hbx
    go_wp2_with fail
    (with_reducible refine HS.out.mono ?_)
    rintro e w2 ⟨rfl, q⟩
    go_wp2_with fail
    go_returns
    exact ⟨rfl, KA.out.trans (q.mono KA.out.size)⟩
end Go.Proofs.YtimjendkpjojoaaDoor
