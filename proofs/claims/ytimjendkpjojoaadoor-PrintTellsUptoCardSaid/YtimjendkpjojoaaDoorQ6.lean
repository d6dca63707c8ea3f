/- Depth, plainly. -/
import Derived.Test.YtimjendkpjojoaaDoorQ1
namespace Go.Proofs.YtimjendkpjojoaaDoor
set_option linter.unusedVariables false
set_option linter.unusedSimpArgs false

namespace Lx
def sh4 : List Tk := [(1, [115, 104, 105, 102, 116], 0), (4, [40], 0), (2, [], 1), (4, [44], 0)]
def depL : Nat → List Tk
  | 0 => []
  | k + 1 => depL k ++ sh4
theorem depL_len : ∀ k, (depL k).length = 4 * k
  | 0 => rfl
  | k + 1 => by rw [depL, List.length_append, depL_len k]; show 4 * k + 4 = 4 * (k + 1); omega
theorem depL_at : ∀ (k : Nat) (r : List Tk) (i : Nat), i < k → ∀ q, q < 4 → tkAt (depL k ++ r) (4 * i + q) = sh4.getD q (0, [], 0)
  | 0, _, _, h, _, _ => absurd h (Nat.not_lt_zero _)
  | k + 1, r, i, h, q, hq => by
    rw [depL, List.append_assoc]
    by_cases z : i < k
    · exact depL_at k _ i z q hq
    · obtain rfl : i = k := by omega
      unfold tkAt
      rw [List.getD_eq_getElem?_getD, List.getElem?_append_right (by rw [depL_len]; omega), depL_len, show 4 * i + q - 4 * i = q by omega, List.getElem?_append_left (by exact hq), List.getD_eq_getElem?_getD]
theorem depL_end (k : Nat) (x : Tk) (r : List Tk) : tkAt (depL k ++ x :: r) (4 * k) = x := by
  unfold tkAt
  rw [List.getD_eq_getElem?_getD, List.getElem?_append_right (by rw [depL_len]; omega), depL_len, Nat.sub_self]; rfl
/-- From here on there are so many operators, one within the other, and then a name. -/
structure Dp (l : List Tk) (j at_ : Nat) : Prop where
  op : ∀ i, i < j → ∀ q, q < 4 → tkAt l (at_ + 4 * i + q) = sh4.getD q (0, [], 0)
  nm : (tkAt l (at_ + 4 * j)).1 = 1
theorem Dp.next {l : List Tk} {j at_ : Nat} (h : Dp l (j + 1) at_) : Dp l j (at_ + 4) :=
  ⟨fun i hi q hq => by have := h.op (i + 1) (by omega) q hq; rw [show at_ + 4 + 4 * i + q = at_ + 4 * (i + 1) + q by omega]; exact this, by rw [show at_ + 4 + 4 * j = at_ + 4 * (j + 1) by omega]; exact h.nm⟩
theorem Dp.name {l : List Tk} {j at_ : Nat} (h : Dp l j at_) : (tkAt l at_).1 = 1 := by
  cases j with
  | zero => simpa using h.nm
  | succ j => have := h.op 0 (by omega) 0 (by omega); simp at this; rw [this]; rfl
theorem take_t {l : List Tk} {s : St} (h : s.wrong = 0) : take l s true = (tkAt l s.at_, ⟨s.at_ + 1, s.parts, s.wrong⟩) := by unfold take; rw [if_pos h, if_pos rfl]
/-- One operator on. -/
theorem dp_step {l : List Tk} {j k : Nat} {s : St} (h : Dp l (j + 1) s.at_) (hw : s.wrong = 0) (hp : s.parts < 2000) : (part l (k + 1) s).2 = mark l (part l k ⟨s.at_ + 4, s.parts + 1, 0⟩).2 [41] := by
  have t0 := h.op 0 (by omega) 0 (by omega)
  have t1 := h.op 0 (by omega) 1 (by omega)
  have t2 := h.op 0 (by omega) 2 (by omega)
  have t3 := h.op 0 (by omega) 3 (by omega)
  simp only [Nat.mul_zero, Nat.add_zero] at t0 t1 t2 t3
  have hb : begun l false s = ⟨s.at_, s.parts + 1, 0⟩ := by
    unfold begun; rw [if_neg (fun e => by rcases e.2.2 with z | z; cases z; omega), hw]
  have n0 : name l (begun l false s) = ([115, 104, 105, 102, 116], ⟨s.at_ + 1, s.parts + 1, 0⟩) := by
    rw [hb]; unfold name isNm; rw [show decide ((tkAt l s.at_).1 = 1) = true by rw [t0]; rfl, take_t rfl, t0]; rfl
  have m1 : isMk l (s.at_ + 1) [40] = true := by unfold isMk; rw [t1]; rfl
  have o1 : mark l ⟨s.at_ + 1, s.parts + 1, 0⟩ [40] = ⟨s.at_ + 2, s.parts + 1, 0⟩ := by unfold mark; rw [m1, take_t rfl]
  have o2 : number l ⟨s.at_ + 2, s.parts + 1, 0⟩ = (1, ⟨s.at_ + 3, s.parts + 1, 0⟩) := by
    unfold number isNu; rw [show decide ((tkAt l (s.at_ + 2)).1 = 2 ∨ (tkAt l (s.at_ + 2)).1 = 3) = true by rw [t2]; rfl, take_t rfl, t2]; rfl
  have m3 : isMk l (s.at_ + 3) [44] = true := by unfold isMk; rw [t3]; rfl
  have o3 : mark l ⟨s.at_ + 3, s.parts + 1, 0⟩ [44] = ⟨s.at_ + 4, s.parts + 1, 0⟩ := by unfold mark; rw [m3, take_t rfl]
  conv => lhs; unfold part
  rw [n0]
  rw [if_pos ⟨rfl, (show opN [115, 104, 105, 102, 116] ≠ 0 by decide), m1⟩]
  have a0 : opA l 2 ⟨s.at_ + 1, s.parts + 1, 0⟩ = ([1], [44], ⟨s.at_ + 3, s.parts + 1, 0⟩) := by
    show numsL l 1 [40] [] _ = _
    unfold numsL; rw [o1, o2]; rfl
  show mark l (opB l (part l k) 2 ⟨s.at_ + 1, s.parts + 1, 0⟩).2.2 [41] = _
  have b0 : (opB l (part l k) 2 ⟨s.at_ + 1, s.parts + 1, 0⟩).2.2 = (part l k ⟨s.at_ + 4, s.parts + 1, 0⟩).2 := by
    unfold opB
    rw [a0]
    show (argsL l (part l k) 1 [44] [] ⟨s.at_ + 3, s.parts + 1, 0⟩).2.2 = _
    unfold argsL
    rw [o3, if_pos rfl]
    rfl
  rw [b0]
/-- Not too deep: what stands inside is read. -/
theorem dp_in {l : List Tk} : ∀ (j k : Nat) (s : St), Dp l j s.at_ → s.wrong = 0 → s.parts + j < 2000 → j < k → s.at_ + 4 * j + 1 ≤ (part l k s).2.at_
  | 0, 0, s, h, hw, hp, hk => absurd hk (Nat.lt_irrefl _)
  | 0, k + 1, s, h, hw, hp, hk => by
    have hb : begun l false s = ⟨s.at_, s.parts + 1, 0⟩ := by
      unfold begun; rw [if_neg (fun e => by rcases e.2.2 with z | z; cases z; omega), hw]
    have n0 : (name l (begun l false s)).2 = ⟨s.at_ + 1, s.parts + 1, 0⟩ := by
      rw [hb]; unfold name isNm; rw [show decide ((tkAt l s.at_).1 = 1) = true by rw [h.name]; rfl, take_t rfl]
    have up : (name l (begun l false s)).2.at_ ≤ (part l (k + 1) s).2.at_ := by
      unfold part
      split
      · exact (operands_on l _ (fun s _ => part_on l k s) _ _).up
      · exact Nat.le_refl _
    rw [n0] at up
    exact up
  | j + 1, 0, s, h, hw, hp, hk => absurd hk (Nat.not_lt_zero _)
  | j + 1, k + 1, s, h, hw, hp, hk => by
    rw [dp_step h hw (by omega)]
    have ih := dp_in j k ⟨s.at_ + 4, s.parts + 1, 0⟩ h.next rfl (by show s.parts + 1 + j < 2000; omega) (by omega)
    have up := (mark_on l (part l k ⟨s.at_ + 4, s.parts + 1, 0⟩).2 [41]).up
    dsimp only at ih
    omega
/-- Too deep. -/
theorem dp_out {l : List Tk} : ∀ (j k : Nat) (s : St), Dp l j s.at_ → s.wrong = 0 → s.parts + j < 2000 → k ≤ j → (part l k s).2.at_ = s.at_ + 4 * k ∧ (part l k s).2.wrong = 111
  | j, 0, s, h, hw, hp, hk => by
    have hb : begun l true s = ⟨s.at_, s.parts + 1, 111⟩ := by
      unfold begun; rw [if_pos ⟨hw, by unfold isNm; rw [h.name]; rfl, .inl rfl⟩]
    have n0 : (name l (begun l true s)).2 = ⟨s.at_, s.parts + 1, 111⟩ := by
      rw [hb]; unfold name take; rw [if_neg (by show ¬ (111 : Int) = 0; decide)]
    unfold part
    rw [n0]
    exact ⟨rfl, rfl⟩
  | 0, k + 1, s, h, hw, hp, hk => absurd hk (Nat.not_succ_le_zero _)
  | j + 1, k + 1, s, h, hw, hp, hk => by
    rw [dp_step h hw (by omega)]
    obtain ⟨e1, e2⟩ := dp_out j k ⟨s.at_ + 4, s.parts + 1, 0⟩ h.next rfl (by show s.parts + 1 + j < 2000; omega) (by omega)
    have st := (mark_on l (part l k ⟨s.at_ + 4, s.parts + 1, 0⟩).2 [41]).stay (by rw [e2]; decide)
    rw [st.1, st.2, e1, e2]
    exact ⟨by show s.at_ + 4 + 4 * k = s.at_ + 4 * (k + 1); omega, rfl⟩
theorem dp_of (j : Nat) (x : Tk) (r : List Tk) (hx : x.1 = 1) : Dp (depL j ++ x :: r) j 0 :=
  ⟨fun i hi q hq => by have := depL_at j (x :: r) i hi q hq; rwa [show 0 + 4 * i + q = 4 * i + q by omega], by rw [Nat.zero_add, depL_end]; exact hx⟩
theorem depth_out (j : Nat) (x : Tk) (r : List Tk) (hx : x.1 = 1) (h : 40 ≤ j) (h2 : j < 2000) : (exprE (depL j ++ x :: r)).2.1 = 160 ∧ (exprE (depL j ++ x :: r)).2.2 = 111 := by
  obtain ⟨e1, e2⟩ := dp_out j 40 ⟨0, 0, 0⟩ (dp_of j x r hx) rfl (by show 0 + j < 2000; omega) h
  unfold exprE told
  have ef : failed (depL j ++ x :: r) (part (depL j ++ x :: r) 40 ⟨0, 0, 0⟩).2 = (part (depL j ++ x :: r) 40 ⟨0, 0, 0⟩).2 := by
    unfold failed; rw [if_neg (fun z => by rw [e2] at z; exact absurd z.1 (by decide))]
  rw [ef, if_neg (by rw [e2]; decide)]
  dsimp only
  rw [e1, e2]
  exact ⟨rfl, rfl⟩
theorem depth_in (j : Nat) (x : Tk) (r : List Tk) (hx : x.1 = 1) (h : j < 40) : ((exprE (depL j ++ x :: r)).2.1 = -1 ∧ (exprE (depL j ++ x :: r)).2.2 = 0) ∨ 4 * (j : Int) < (exprE (depL j ++ x :: r)).2.1 := by
  have up := dp_in j 40 ⟨0, 0, 0⟩ (dp_of j x r hx) rfl (by show 0 + j < 2000; omega) h
  dsimp only at up
  rcases expr_code (depL j ++ x :: r) with a | ⟨a, _, _⟩
  · exact .inl a
  · refine .inr ?_
    rw [a]; omega
end Lx
end Go.Proofs.YtimjendkpjojoaaDoor
