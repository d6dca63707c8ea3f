/- Forms plainly: the set of an index; contracts: ticks, Get, hullOf. -/
import Derived.Test.YtacpcokmgahjaaaDoorG6
namespace Go.Proofs.YtacpcokmgahjaaaDoor
set_option linter.unusedVariables false
set_option linter.unusedSimpArgs false
open Go.ChangeShapes Go.WideShapes Go.ChangeAt Go.RowKit
/-- All ticks in range. -/
def Fit (l : List Sp) : Prop := ∀ s ∈ l, (-1099511627776 ≤ s.1 ∧ s.1 ≤ 1099511627776) ∧ -1099511627776 ≤ s.2 ∧ s.2 ≤ 1099511627776
theorem fit_moved (l : List Sp) (d : Int) : Fit (moved l d) ↔ ∀ s ∈ l, okSp d s := by
  unfold Fit moved okSp
  constructor
  · intro h s hs
    exact h (s.1 + d, s.2 + d) (List.mem_map.2 ⟨s, hs, rfl⟩)
  · intro h s hs
    obtain ⟨u, hu, rfl⟩ := List.mem_map.1 hs
    exact h u hu
theorem fit_good {l : List Sp} (g : Good l) : Fit l := by
  intro s hs
  obtain ⟨i, hi, rfl⟩ := List.getElem_of_mem hs
  have := good_at g i hi
  omega
/-- The exception of an index. -/
def exc (os : List Gr) (i : Int) : Option (List Sp) := (os.find? (fun o => o.1 == i)).map (fun o => o.2)
/-- The set of an index of the core, however far. -/
def cset (cs : List (List Sp)) (N i : Int) : List Sp := cs.getD (i.fmod N).toNat []
def cg (cs : List (List Sp)) (P N i : Int) : List Sp := if 0 < N ∧ N = cs.length then moved (cset cs N i) (P * i.fdiv N) else []
/-- The set of an index, however far. -/
def gr (F : Fv) (i : Int) : List Sp := match exc F.os i with
  | some l => l
  | none => cg F.cs F.P F.N i
structure Fv.Ok (F : Fv) : Prop where
  meas : F.Meas
  core : ∀ l ∈ F.cs, Good l
  odd : OddOk F.os
  lenC : ∀ l ∈ F.cs, l.length ≤ 1000000
  lenO : ∀ o ∈ F.os, o.2.length ≤ 1000000
  cn : F.cn ≤ 1000000
  on : F.on ≤ 1000000
theorem exc_at {os : List Gr} {i : Int} (h : os.Pairwise (fun a b => a.1 < b.1)) {n : Nat} (hn : n < os.length) (e : os[n].1 = i) : exc os i = some os[n].2 := by
  unfold exc
  induction os generalizing n with
  | nil => simp at hn
  | cons o r ih =>
    rw [List.pairwise_cons] at h
    cases n with
    | zero =>
      have e' : o.1 = i := e
      rw [List.find?_cons_of_pos (by simpa using e')]; rfl
    | succ m =>
      have e' : (r[m]'(by simpa using hn)).1 = i := by simpa using e
      have := h.1 _ (List.getElem_mem (by simpa using hn : m < r.length))
      rw [List.find?_cons_of_neg (by simp; omega)]
      simpa using ih h.2 (by simpa using hn) e'
theorem exc_none {os : List Gr} {i : Int} : exc os i = none ↔ ∀ o ∈ os, o.1 ≠ i := by
  unfold exc
  rw [Option.map_eq_none_iff, List.find?_eq_none]
  constructor
  · intro h o ho e; exact h o ho (by simpa using e)
  · intro h o ho e; exact h o ho (by simpa using e)
theorem exc_some {os : List Gr} {i : Int} {l : List Sp} (h : exc os i = some l) : ∃ n, ∃ hn : n < os.length, os[n].1 = i ∧ os[n].2 = l := by
  unfold exc at h
  obtain ⟨o, ho, rfl⟩ := Option.map_eq_some_iff.1 h
  obtain ⟨n, hn, rfl⟩ := List.getElem_of_mem (List.mem_of_find?_eq_some ho)
  exact ⟨n, hn, by simpa using List.find?_some ho, rfl⟩
theorem ois_none {os : List Gr} {i : Int} {n : Nat} (h : os.Pairwise (fun a b => a.1 < b.1)) (hi : OIs os i n) (hf : ¬ ∃ h : n < os.length, os[n].1 = i) : exc os i = none := by
  rw [exc_none]
  intro o ho e
  obtain ⟨j, hj, rfl⟩ := List.getElem_of_mem ho
  by_cases q : j < n
  · have := hi.low j hj q; omega
  · by_cases z : j = n
    · subst z; exact hf ⟨hj, e⟩
    · have := inc_at h n j (by omega) hj (by omega)
      have := hi.high n (by omega) (Nat.le_refl _)
      omega
theorem fmod_nat (i : Int) {N : Int} (h : 0 < N) : 0 ≤ i.fmod N ∧ i.fmod N < N := ⟨Int.fmod_nonneg_of_pos i h, Int.fmod_lt_of_pos i h⟩
theorem far_out {l : List Sp} {d : Int} (g : Good l) (h : l ≠ []) (hd : d < -9223372036854775808 ∨ 9223372036854775807 < d) : ¬ Fit (moved l d) := by
  rw [fit_moved]
  intro q
  obtain ⟨s, hs⟩ := List.exists_mem_of_ne_nil l h
  obtain ⟨i, hi, rfl⟩ := List.getElem_of_mem hs
  have := (q _ hs).1
  have := good_at g i hi
  omega
theorem fdiv_in (i : Int) {N : Int} (h : 0 < N) (h1 : -9223372036854775808 ≤ i) (h2 : i ≤ 9223372036854775807) : -9223372036854775808 ≤ i.fdiv N ∧ i.fdiv N ≤ 9223372036854775807 := by
  rw [Int.fdiv_eq_ediv_of_nonneg _ (by omega)]
  constructor
  · by_cases z : 0 ≤ i
    · have := Int.ediv_nonneg z (by omega : 0 ≤ N); omega
    · have r := Int.lt_ediv_add_one_mul_self i h
      have hq : i / N < 0 := Int.ediv_neg_of_neg_of_pos (by omega) h
      have r2 : (i / N + 1) * N ≤ (i / N + 1) * 1 := Int.mul_le_mul_of_nonpos_left (by omega) (by omega)
      have r3 := Int.lt_of_lt_of_le r r2
      clear r r2
      omega
  · exact Int.le_trans (by
      by_cases z : 0 ≤ i
      · exact Int.le_trans (Int.ediv_le_self N z) (by omega)
      · have hq : i / N < 0 := Int.ediv_neg_of_neg_of_pos (by omega) h
        omega : i / N ≤ max i 0) (by omega)
end Go.Proofs.YtacpcokmgahjaaaDoor
