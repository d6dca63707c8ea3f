/- The document's own answer for layer 9: Right; the law's guard. -/
import Derived.Test.YtimjendkpjojoaaDoorE23
namespace Go.Proofs.YtimjendkpjojoaaDoor
set_option linter.unusedVariables false
set_option linter.unusedSimpArgs false
open Go.ChangeShapes Go.WideShapes Go.ChangeAt Go.RowKit
theorem dfold_ge : ∀ (l : List (Pt × Int)) (c : Int), c ≤ dfold c l ∧ ∀ x ∈ l, x.2 ≤ dfold c l
  | [], c => ⟨Int.le_refl _, fun x h => by cases h⟩
  | y :: l, c => by
    have h := dfold_ge l (max c y.2)
    refine ⟨?_, ?_⟩
    · show c ≤ dfold (max c y.2) l
      have := h.1; omega
    · intro x hx
      show x.2 ≤ dfold (max c y.2) l
      rcases List.mem_cons.1 hx with e | e
      · rw [e]; have := h.1; omega
      · exact h.2 x e
theorem right_iff (l : List (Pt × Int)) : RightL l ↔ AllFit l ∧ dfold 0 l ≤ 40 ∧ l.length ≤ 2000 := by
  unfold RightL AllFit
  constructor
  · rintro ⟨h1, h2⟩
    refine ⟨?_, dfold_le l 0 40 (by omega) (fun x hx => (h2 x hx).1), h1⟩
    intro p hp
    obtain ⟨x, hx, rfl⟩ := List.mem_map.1 hp
    exact (h2 x hx).2
  · rintro ⟨h1, h2, h3⟩
    refine ⟨h3, fun x hx => ⟨?_, h1 _ (List.mem_map_of_mem hx)⟩⟩
    have := (dfold_ge l 0).2 x hx
    omega
set_option maxHeartbeats 1000000 in
theorem rright_any (n : Nat) (v : Value) (F : Tour) (w : World) (hF : ExAt w n v F) (hn : n ≤ 1048576) (hl : (F 1).length ≤ 1048576) (r : Bool) (hr : r = true ↔ RightL (F 1)) :
    Calls Tryd.prog 19 #[v] w fun e w' => e = .returned (.bool r) ∧ Below w.heap.size w w' := by
  obtain ⟨r1, hr1⟩ : ∃ r1 : Bool, r1 = true ↔ AllFit (F 1) := by classical exact ⟨decide _, decide_eq_true_iff⟩
  have H1 := Lib.hid (fun W (h : Below w.heap.size w W) => rparts_any n v F W (hF.keep h) r1 hr1)
  have H2 := Lib.hid (fun W (h : Below w.heap.size w W) => rdepth_any n v F W (hF.keep h) hn)
  have H3 := Lib.hid (fun W (h : Below w.heap.size w W) => rcount_any n v F W (hF.keep h) hl)
  have HRR := Lib.hid (hr.trans (right_iff (F 1)))
  have HR1 := Lib.hid hr1
  obtain ⟨p, an, nn, nc, aa, ac, rfl, _⟩ := hF.head
  obtain ⟨x, hx⟩ : ∃ x, dfold 0 (F 1) = x := ⟨_, rfl⟩
  obtain ⟨y, hy⟩ : ∃ y, ((F 1).length : Int) = y := ⟨_, rfl⟩
  rw [hx] at H2 HRR
  rw [hy] at H3
  have HY := Lib.hid hy
  obtain ⟨b, hb⟩ : ∃ z, w.heap.size = z := ⟨_, rfl⟩
  obtain ⟨w1, hw1⟩ : ∃ z, w.alloc (.cells #[.int .u8 p.op, .string p.nm, .slice an nn nc, .slice aa p.k ac] 25) = z := ⟨_, rfl⟩
  have HX : Hid (Bx1 w w1 b #[.int .u8 p.op, .string p.nm, .slice an nn nc, .slice aa p.k ac]) := Lib.hid ⟨by rw [← hw1]; exact (Below.refl _ w).alloc (Nat.le_refl _) _, by rw [← hw1, ← hb, al_new]⟩
  clear hF hr hr1 hx hy hl
  have e0 := cell_blk HX.out.box 0
  have e1 := cell_blk HX.out.box 1
  have e2 := cell_blk HX.out.box 2
  have e3 := cell_blk HX.out.box 3
  go_enter Tryd.func19, Tryd.ntmps19
  go_wp2_with fail
  (with_reducible refine (H1.out _ HX.out.bw).mono ?_)
  rintro e w2 ⟨rfl, q⟩
  have HX := Lib.hid (HX.out.keep q)
  clear q H1 e0 e1 e2 e3 hw1 hb
  have e0 := cell_blk HX.out.box 0
  have e1 := cell_blk HX.out.box 1
  have e2 := cell_blk HX.out.box 2
  have e3 := cell_blk HX.out.box 3
  cases r1
  · obtain rfl : r = false := by
      cases r
      · rfl
      · exact absurd (HR1.out.2 (HRR.out.1 rfl).1) (by simp)
    go_wp2
    go_returns
    exact ⟨rfl, HX.out.bw⟩
  · go_wp2_with fail
    (with_reducible refine (H2.out _ HX.out.bw).mono ?_)
    rintro e w3 ⟨rfl, q⟩
    have HX := Lib.hid (HX.out.keep q)
    clear q H2 e0 e1 e2 e3
    have e0 := cell_blk HX.out.box 0
    have e1 := cell_blk HX.out.box 1
    have e2 := cell_blk HX.out.box 2
    have e3 := cell_blk HX.out.box 3
    by_cases x4 : x ≤ 40
    · go_wp2_with fail
      (with_reducible refine (H3.out _ HX.out.bw).mono ?_)
      rintro e w4 ⟨rfl, q⟩
      have HX := Lib.hid (HX.out.keep q)
      clear q H3 e0 e1 e2 e3
      obtain rfl : r = decide (y ≤ 2000) := by
        have a := HRR.out
        have b : AllFit (F 1) := by have := HR1.out; simpa using this
        have c := HY.out
        by_cases z : y ≤ 2000
        · rw [decide_eq_true z]; exact a.2 ⟨b, x4, by omega⟩
        · rw [decide_eq_false z]
          cases r
          · rfl
          · have := (a.1 rfl).2.2; omega
      go_wp2
      go_returns
      exact ⟨rfl, HX.out.bw⟩
    · have x5 : decide (x ≤ 40) = false := by simp; omega
      obtain rfl : r = false := by
        cases r
        · rfl
        · exact absurd (HRR.out.1 rfl).2.1 x4
      go_wp2
      go_returns
      exact ⟨rfl, HX.out.bw⟩
end Go.Proofs.YtimjendkpjojoaaDoor
