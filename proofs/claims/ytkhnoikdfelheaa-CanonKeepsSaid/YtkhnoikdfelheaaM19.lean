/- Plainly: what CanonKeeps says. -/
import Derived.Test.YtkhnoikdfelheaaY2
namespace Go.Proofs.Ytkhnoikdfelheaa
set_option linter.unusedVariables false
set_option linter.unusedSimpArgs false
open Go.ChangeShapes Go.WideShapes Go.ChangeAt Go.RowKit
theorem lens_take_le : ∀ (l : List (List Sp)) (k : Nat), lens (l.take k) ≤ lens l
  | [], k => by simp
  | x :: r, 0 => by simp [lens]
  | x :: r, k + 1 => by
    have := lens_take_le r k
    simp only [List.take_succ_cons, lens]
    omega
theorem lens_filter_le (p : Gr → Bool) : ∀ (os : List Gr), lens (tks (os.filter p)) ≤ lens (tks os)
  | [] => by simp
  | o :: r => by
    have := lens_filter_le p r
    rw [List.filter_cons]
    split
    · show o.2.length + lens (tks (r.filter p)) ≤ o.2.length + lens (tks r); omega
    · show lens (tks (r.filter p)) ≤ o.2.length + lens (tks r); omega
/-- The canonical form has no more of anything. -/
structure Less (F G : Fv) : Prop where
  n : G.N ≤ F.N
  p : G.P ≤ F.P
  cn : G.cn ≤ F.cn
  on : G.on ≤ F.on
  sz : G.size ≤ F.size
theorem can_less {F G : Fv} (c : IsCan F G) (h : F.Rt) (hl : F.cs.length = F.cn) (ho : F.os.length = F.on) (hg : G.os.length = G.on) : Less F G := by
  have hm := meas_P h.meas
  have hN := meas_N h.meas
  have key : G.cn ≤ F.cn ∧ G.P ≤ F.P := by
    rcases c.turn with ⟨z, _⟩ | ⟨⟨l, h1, _⟩, t, _⟩
    · refine ⟨by omega, ?_⟩
      rw [c.P, z]
      exact hm.1
    · rcases meas_full h.meas hl with f | f
      · have hd := turn_le f t
        have hp := canP_mul t
        refine ⟨by omega, ?_⟩
        rw [c.P]
        have hd2 : ((G.cn : Nat) : Int) ≤ F.N := by rw [hN]; omega
        have e : F.P * (G.cn : Int) ≤ F.P * F.N := Int.mul_le_mul_of_nonneg_left hd2 hm.1
        rw [← hp, Int.mul_comm F.P F.N] at e
        exact Int.le_of_mul_le_mul_left e f.1
      · rw [f] at h1; cases h1
  refine ⟨by rw [c.N, hN]; omega, key.2, key.1, ?_, ?_⟩
  · rw [← ho, ← hg, c.os]; exact List.length_filter_le _ _
  · have a := lens_take_le F.cs G.cn
    have b := lens_filter_le (fun o => !(decide (o.2 = cg F.cs F.P F.N o.1))) F.os
    unfold Fv.size
    rw [c.cs, c.os]
    unfold canOs
    omega
theorem Less.small {F G : Fv} (h : Less F G) (s : F.Small) : G.Small := ⟨Nat.le_trans h.cn s.1, Nat.le_trans h.on s.2.1, Nat.le_trans h.sz s.2.2⟩
theorem canOs_ne {F G : Fv} (c : IsCan F F) : ∀ o ∈ F.os, o.2 ≠ cg F.cs F.P F.N o.1 := fun o ho e => by
  rw [c.os] at ho
  have := (List.mem_filter.1 ho).2
  simp [e] at this
theorem canEq_self {F C : Fv} (c : IsCan F C) (k : IsCan C C) : CanEq F C := (canEq_iff c k).2 ⟨rfl, rfl, rfl, rfl⟩
end Go.Proofs.Ytkhnoikdfelheaa
