/- Plainly: the nearest granule beyond an index. -/
import Derived.Test.YtacpcokmgahjaaaDoorG15
namespace Go.Proofs.YtacpcokmgahjaaaDoor
set_option linter.unusedVariables false
set_option linter.unusedSimpArgs false
open Go.ChangeShapes Go.WideShapes Go.ChangeAt Go.RowKit
/-- The nearest granule beyond an index, one way. -/
structure Nr (F : Fv) (i st j : Int) (ok : Bool) : Prop where
  yes : ok = true → i * st < j * st ∧ gr F j ≠ [] ∧ ∀ k, i * st < k * st → k * st < j * st → gr F k = []
  no : ok = false → ∀ k, i * st < k * st → gr F k = []
  low : -1152921504606846976 ≤ j
  high : j ≤ 1152921504606846976
theorem nxt_mid {cs : List (List Sp)} {N x st j : Int} (hst : st = 1 ∨ st = -1) (h : Nxt cs N x st j) : x * st < j * st ∧ (∀ k, x * st < k * st → k * st < j * st → cset cs N k = []) ∧ x - 2 * N ≤ j ∧ j ≤ x + 2 * N := by
  obtain ⟨⟨d, d1, d2, rfl, hd⟩, hj⟩ := h
  rcases hst with rfl | rfl
  · refine ⟨by omega, fun k k1 k2 => ?_, by omega, by omega⟩
    have := hd (k - x) (by omega) (by omega)
    rw [show x + 1 * (k - x) = k by omega] at this
    exact this
  · refine ⟨by omega, fun k k1 k2 => ?_, by omega, by omega⟩
    have := hd (x - k) (by omega) (by omega)
    rw [show x + -1 * (x - k) = k by omega] at this
    exact this
theorem gr_free {F : Fv} {k : Int} (h : exc F.os k = none) : gr F k = cg F.cs F.P F.N k := by unfold gr; rw [h]
theorem cg_of_cset {F : Fv} (hl : F.cs.length = F.cn) (hr : F.Rep) (k : Int) : cg F.cs F.P F.N k = [] ↔ cset F.cs F.N k = [] := cg_nil hr.1 (by rw [hl]; exact hr.2)
theorem nr_free {F : Fv} {x st j : Int} (hl : F.cs.length = F.cn) (hst : st = 1 ∨ st = -1) (hr : F.Rep) (hn : Nxt F.cs F.N x st j) (hf : ∀ k, x * st < k * st → k * st ≤ j * st → exc F.os k = none) (h1 : -576460752303423488 ≤ x) (h2 : x ≤ 576460752303423488) (hc : F.cn ≤ 1000000) : Nr F x st j true := by
  obtain ⟨q1, q2, q3, q4⟩ := nxt_mid hst hn
  have hN := hr.2
  refine ⟨fun _ => ⟨q1, ?_, fun k k1 k2 => ?_⟩, (fun h => by cases h), by omega, by omega⟩
  · rw [gr_free (hf j q1 (Int.le_refl _))]
    intro e
    exact hn.here ((cg_of_cset hl hr j).1 e)
  · rw [gr_free (hf k k1 (Int.le_of_lt k2))]
    exact (cg_of_cset hl hr k).2 (q2 k k1 k2)
theorem nr_end {F : Fv} {x st : Int} (hc : ∀ i, cg F.cs F.P F.N i = []) (hf : ∀ k, x * st < k * st → exc F.os k = none) : Nr F x st 0 false :=
  ⟨(fun h => by cases h), fun _ k k1 => by rw [gr_free (hf k k1)]; exact hc k, by omega, by omega⟩
theorem nr_take {F : Fv} {x st o : Int} (h : x * st < o * st) (hm : ∀ k, x * st < k * st → k * st < o * st → gr F k = []) (ho : gr F o ≠ []) (h1 : -1152921504606846976 ≤ o) (h2 : o ≤ 1152921504606846976) : Nr F x st o true :=
  ⟨fun _ => ⟨h, ho, hm⟩, (fun h => by cases h), h1, h2⟩
theorem nr_pass {F : Fv} {x st o j : Int} {ok : Bool} (hst : st = 1 ∨ st = -1) (h : x * st < o * st) (hm : ∀ k, x * st < k * st → k * st < o * st → gr F k = []) (ho : gr F o = []) (hn : Nr F o st j ok) : Nr F x st j ok := by
  have hk : ∀ k, x * st < k * st → ¬ o * st < k * st → gr F k = [] := fun k k1 k2 => by
    by_cases e : k * st = o * st
    · have : k = o := by rcases hst with rfl | rfl <;> omega
      rw [this]; exact ho
    · exact hm k k1 (by omega)
  refine ⟨fun e => ?_, fun e k k1 => ?_, hn.low, hn.high⟩
  · obtain ⟨a, b, c⟩ := hn.yes e
    refine ⟨by omega, b, fun k k1 k2 => ?_⟩
    by_cases q : o * st < k * st
    · exact c k q k2
    · exact hk k k1 q
  · by_cases q : o * st < k * st
    · exact hn.no e k q
    · exact hk k k1 q
theorem exc_mid {os : List Gr} (h : os.Pairwise (fun a b => a.1 < b.1)) (i : Nat) (h1 : i + 1 < os.length) (k : Int) (k1 : os[i].1 < k) (k2 : k < os[i + 1].1) : exc os k = none := by
  rw [exc_none]
  intro o ho e
  obtain ⟨j, hj, rfl⟩ := List.getElem_of_mem ho
  by_cases q : j ≤ i
  · have := inc_le h j i hj (by omega) q; omega
  · have := inc_le h (i + 1) j h1 hj (by omega); omega
theorem exc_high {os : List Gr} (h : os.Pairwise (fun a b => a.1 < b.1)) (i : Nat) (h1 : i < os.length) (hl : i + 1 = os.length) (k : Int) (k1 : os[i].1 < k) : exc os k = none := by
  rw [exc_none]
  intro o ho e
  obtain ⟨j, hj, rfl⟩ := List.getElem_of_mem ho
  have := inc_le h j i hj (by omega) (by omega); omega
theorem exc_low {os : List Gr} (h : os.Pairwise (fun a b => a.1 < b.1)) (h1 : 0 < os.length) (k : Int) (k1 : k < os[0].1) : exc os k = none := by
  rw [exc_none]
  intro o ho e
  obtain ⟨j, hj, rfl⟩ := List.getElem_of_mem ho
  have := inc_le h 0 j (by omega) hj (by omega); omega
theorem gr_at {F : Fv} (h : F.os.Pairwise (fun a b => a.1 < b.1)) (i : Nat) (h1 : i < F.os.length) : gr F F.os[i].1 = F.os[i].2 := by unfold gr; rw [exc_at h h1 rfl]
/-- Between an exception and the next one nothing, if the walk went past it. -/
theorem mid_none {F : Fv} {x st o : Int} (hl : F.cs.length = F.cn) (hst : st = 1 ∨ st = -1) (hf : ∀ k, x * st < k * st → k * st < o * st → exc F.os k = none) (h : (∀ i, cg F.cs F.P F.N i = []) ∨ ∃ j, Nxt F.cs F.N x st j ∧ F.Rep ∧ 0 ≤ (j - o) * st) : ∀ k, x * st < k * st → k * st < o * st → gr F k = [] := by
  intro k k1 k2
  rw [gr_free (hf k k1 k2)]
  rcases h with h | ⟨j, h1, h2, h3⟩
  · exact h k
  · rw [cg_of_cset hl h2]
    refine (nxt_mid hst h1).2.1 k k1 ?_
    rcases hst with rfl | rfl <;> omega
theorem info116 : (Tryd.prog.info? 116).map (fun i => (i.zero, i.size, i.bytes)) = some (some (.agg #[.int .i64 0, .bool false]), 2, 16) := by kernel_rfl
/-- The row of neighbours, as far as it is done. -/
structure Nbs (F : Fv) (w0 w : World) (B b g bF : Nat) (a st : Int) (done : Nat → Prop) : Prop where
  wk : ∃ ps v L, Wk F w0 w B b a st ps v L ∧ Ready F v L ∧ 0 ≤ ps ∧ ps ≤ 2 * F.cn
  row : ∃ xs, w.ownsRow w0.heap.size 116 2 (.slice (some ⟨g, 0, none⟩) F.on F.on) F.on xs ∧ ∀ i, done i → ∀ h : i < F.os.length, ∃ j ok, xs[i * 2]? = some (.int .i64 j) ∧ xs[i * 2 + 1]? = some (.bool ok) ∧ Nr F F.os[i].1 st j ok
  g1 : w0.heap.size ≤ g
  g2 : g < B
  g3 : g ≠ b
  box : w.heap[bF]? = some (.cells F.box 29 (0, 0))
  f1 : bF < B
  f2 : bF ≠ b
  f3 : bF ≠ g
theorem Nbs.grown {F : Fv} {w0 w w' : World} {B b g bF : Nat} {a st a2 : Int} {done : Nat → Prop} (h : Nbs F w0 w B b g bF a st done) (hg : w.grownBy w' (some b)) (hk : ∃ ps v L, Wk F w0 w' B b a2 st ps v L ∧ Ready F v L ∧ 0 ≤ ps ∧ ps ≤ 2 * F.cn) : Nbs F w0 w' B b g bF a2 st done := by
  obtain ⟨xs, h1, h2⟩ := h.row
  obtain ⟨ps, v, L, k1, _⟩ := h.wk
  refine ⟨hk, ⟨xs, h1.kept hg (.inr (fun e => h.g3 (by cases e; rfl))), h2⟩, h.g1, h.g2, h.g3, (hg.block bF (Nat.lt_of_lt_of_le h.f1 k1.sz) (fun e => h.f2 (by cases e; rfl))).trans h.box, h.f1, h.f2, h.f3⟩
theorem Nbs.keep {F : Fv} {w0 w w' : World} {B b g bF : Nat} {a st : Int} {done : Nat → Prop} (h : Nbs F w0 w B b g bF a st done) (k : Below w.heap.size w w') : Nbs F w0 w' B b g bF a st done := by
  obtain ⟨ps, v, L, k1, k2⟩ := h.wk
  exact h.grown ((grown_of_below k).but _) ⟨ps, v, L, k1.keep k, k2⟩
theorem Nbs.setAt {F : Fv} {w0 w : World} {B b g bF : Nat} {a st : Int} {done : Nat → Prop} (h : Nbs F w0 w B b g bF a st done) (a2 : Int) : Nbs F w0 (w.setCell ⟨b, 4, none⟩ (.int .i64 a2)) B b g bF a2 st done := by
  obtain ⟨ps, v, L, k1, k2⟩ := h.wk
  exact h.grown (grown_put0 (World.grownBy.refl w _) 4 _) ⟨ps, v, L, k1.put 4 (.int .i64 a2) rfl k1.own, k2⟩
theorem Nbs.store {F : Fv} {w0 w : World} {B b g bF : Nat} {a st : Int} {done : Nat → Prop} (h : Nbs F w0 w B b g bF a st done) (i : Nat) (j : Int) (ok : Bool) (done2 : Nat → Prop) (hd : ∀ k, done2 k → k ≠ i → done k) (hi : ∀ q : i < F.os.length, done2 i → Nr F F.os[i].1 st j ok) :
    Nbs F w0 ((w.setCell ⟨g, i * 2, none⟩ (.int .i64 j)).setCell ⟨g, i * 2 + 1, none⟩ (.bool ok)) B b g bF a st done2 := by
  obtain ⟨xs, h1, h2⟩ := h.row
  obtain ⟨ps, v, L, k1, k2⟩ := h.wk
  have s1 := h1.stored (i * 2) (.int .i64 j)
  have s2 := s1.1.stored (i * 2 + 1) (.bool ok)
  have hg := s1.2.trans s2.2
  refine ⟨⟨ps, v, L, k1.grown hg (fun q e => by cases e; exact ⟨h.g1, h.g2, h.g3⟩), k2⟩, ⟨_, s2.1, fun k hk q => ?_⟩, h.g1, h.g2, h.g3, (hg.block bF (Nat.lt_of_lt_of_le h.f1 k1.sz) (fun e => h.f3 (by cases e; rfl))).trans h.box, h.f1, h.f2, h.f3⟩
  have hlen := h1.1
  have hql : F.os.length = F.on := k1.f.odd.len
  by_cases e : k = i
  · subst e
    refine ⟨j, ok, ?_, ?_, hi q hk⟩
    · rw [List.getElem?_set_ne (by omega), List.getElem?_set_self (by omega)]
    · rw [List.getElem?_set_self (by simp; omega)]
  · obtain ⟨j2, ok2, x1, x2, x3⟩ := h2 k (hd k hk e) q
    refine ⟨j2, ok2, ?_, ?_, x3⟩
    · rw [List.getElem?_set_ne (by omega), List.getElem?_set_ne (by omega)]; exact x1
    · rw [List.getElem?_set_ne (by omega), List.getElem?_set_ne (by omega)]; exact x2
end Go.Proofs.YtacpcokmgahjaaaDoor
