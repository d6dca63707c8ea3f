/- Contracts: awake: parts. -/
import Derived.Test.YthjpnnggghfepaaU7
import Derived.Test.YthjpnnggghfepaaU4
import Derived.Test.YthjpnnggghfepaaU1
namespace Go.Proofs.Ythjpnnggghfepaa
set_option linter.unusedVariables false
set_option linter.unusedSimpArgs false
open Go.ChangeShapes Go.WideShapes Go.ChangeAt Go.RowKit
/-- Numbers laid by the program, as spans. -/
def pairs (zs : List Int) (m : Nat) : List Sp := ofL (fun i => zs.getD i 0) m
theorem lit_cells (W : World) (zs : List Int) (t : TypeId) : ∀ i, i < zs.length → (W.alloc (.cells (zs.map (Value.int .i64)).toArray t)).cell? ⟨W.heap.size, i, none⟩ = some (.int .i64 (zs.getD i 0)) := by
  intro i hi
  unfold World.cell?
  rw [World.alloc_heap_new]
  simp [List.getD, hi]
theorem of_lit (W : World) (zs : List Int) (t : TypeId) (m n c : Nat) (hm : m ≤ 1000000) (hn : n = 2 * m) (hz : zs.length = n) :
    Calls Try.prog 34 #[.slice (some ⟨W.heap.size, 0, none⟩) n c] (W.alloc (.cells (zs.map (Value.int .i64)).toArray t)) fun e w' => ∃ ao k, e = .returned (.slice ao m k) ∧ SpAt w' ao m k (pairs zs m) ∧ Below W.heap.size W w' := by
  refine (of_any W.heap.size m c (fun i => zs.getD i 0) hm _ (fun i hi => lit_cells W zs t i (by omega)) n hn).mono ?_
  rintro e w' ⟨ao, k, e1, h1, h2⟩
  exact ⟨ao, k, e1, h1.out, ((Below.refl _ W).alloc (Nat.le_refl _) _).trans (h2.out.mono (by simp))⟩
theorem is_lit (W : World) (ao : Option Addr) (k kc : Nat) (l : List Sp) (hl : SpAt W ao k kc l) (zs : List Int) (t : TypeId) (m n c : Nat) (hm : m ≤ 1000000) (hn : n = 2 * m) (hz : zs.length = n) (he : l = pairs zs m) :
    Calls Try.prog 35 #[.slice ao k kc, .slice (some ⟨W.heap.size, 0, none⟩) n c] (W.alloc (.cells (zs.map (Value.int .i64)).toArray t)) fun e w' => e = .returned (.bool true) ∧ Below W.heap.size W w' := by
  have KA := (Below.refl _ W).alloc (Nat.le_refl _) (.cells (zs.map (Value.int .i64)).toArray t)
  refine (is_any ao k kc W.heap.size m c l (fun i => zs.getD i 0) hm _ (hl.keep KA) (fun i hi => lit_cells W zs t i (by omega)) n hn true ?_).mono ?_
  · simp only [true_iff]; exact he
  · rintro e w' ⟨e1, h1⟩
    exact ⟨e1, KA.trans (h1.mono (by simp))⟩
/-- What awake has laid. -/
structure Aw (w0 w : World) (a1 a5 a6 a9 : Option Addr) (c1 c5 c6 c9 bx : Nat) : Prop where
  p1 : SpAt w a1 2 c1 [(1, 3), (5, 7)]
  p5 : SpAt w a5 1 c5 [(1, 9)]
  p6 : SpAt w a6 2 c6 [(0, 2), (8, 12)]
  p9 : SpAt w a9 1 c9 [(0, 2)]
  b1 : w.cell? ⟨bx, 0, none⟩ = some (.int .i64 1)
  b2 : w.cell? ⟨bx, 1, none⟩ = some (.int .i64 7)
  bw : Below w0.heap.size w0 w
theorem Aw.keep {w0 w w' : World} {a1 a5 a6 a9 : Option Addr} {c1 c5 c6 c9 bx : Nat} (h : Aw w0 w a1 a5 a6 a9 c1 c5 c6 c9 bx) (b : Below w.heap.size w w') : Aw w0 w' a1 a5 a6 a9 c1 c5 c6 c9 bx :=
  ⟨h.p1.keep b, h.p5.keep b, h.p6.keep b, h.p9.keep b, cell_keep h.b1 b, cell_keep h.b2 b, h.bw.trans (b.mono h.bw.size)⟩
/-- Make at spans that are right. -/
theorem make_right (l r0 : List Sp) (g0 : Good r0) (hs : ∀ t, mem r0 t ↔ mem l t) (h1 : ∀ s ∈ l, s.1 ≤ s.2) (h2 : ∀ s ∈ l, TkSp s) (ao : Option Addr) (n c : Nat) (hn : n ≤ 1000000) (w : World) (hl : SpAt w ao n c l) :
    Calls Try.prog 11 #[.slice ao n c] w fun e w' => ∃ ao' c', e = .returned (.tuple #[.slice ao' r0.length c', .int .i64 0]) ∧ Below w.heap.size w w' ∧ SpAt w' ao' r0.length c' r0 := by
  refine (make_all ao n c l hn w hl).mono ?_
  rintro e w' ⟨v, k, e1, h3, h4⟩
  rcases h4 with ⟨⟨s, q1, q2⟩, _⟩ | ⟨_, ⟨s, q1, q2⟩, _⟩ | ⟨_, _, rfl, r, q1, q2, q3, q4⟩
  · exact absurd (h1 s q1) (by omega)
  · exact absurd (h2 s q1) q2
  · obtain rfl : r = r0 := rt_unique q1 g0 (fun t => (q2 t).trans (hs t).symm)
    obtain ⟨ao', c', rfl, q5⟩ := own_sp rfl q4
    exact ⟨ao', c', e1, h3, q5⟩
theorem make_wrong (l : List Sp) (h1 : ∃ s ∈ l, s.2 < s.1) (ao : Option Addr) (n c : Nat) (hn : n ≤ 1000000) (w : World) (hl : SpAt w ao n c l) :
    Calls Try.prog 11 #[.slice ao n c] w fun e w' => e = .returned (.tuple #[.slice none 0 0, .int .i64 2]) ∧ Below w.heap.size w w' := by
  refine (make_all ao n c l hn w hl).mono ?_
  rintro e w' ⟨v, k, e1, h3, h4⟩
  obtain ⟨s, q1, q2⟩ := h1
  rcases h4 with ⟨_, rfl, rfl⟩ | ⟨h, _⟩ | ⟨h, _⟩
  · exact ⟨e1, h3⟩
  · exact absurd (h s q1) (by omega)
  · exact absurd (h s q1) (by omega)
theorem move_right (l : List Sp) (ga : Good l) (d : Int) (hd1 : -9223372036854775808 ≤ d) (hd2 : d ≤ 9223372036854775807) (hok : ∀ s ∈ l, okSp d s) (ao : Option Addr) (n c : Nat) (hn : n ≤ 1000000) (w : World) (hl : SpAt w ao n c l) :
    Calls Try.prog 31 #[.slice ao n c, .int .i64 d] w fun e w' => ∃ ao' c', e = .returned (.tuple #[.slice ao' n c', .int .i64 0]) ∧ Below w.heap.size w w' ∧ SpAt w' ao' n c' (moved l d) := by
  refine (move_any ao n c l ga hn d hd1 hd2 w hl).mono ?_
  rintro e w' ⟨v, k, e1, h3, h4⟩
  rcases h4 with ⟨_, rfl, h⟩ | ⟨⟨s, q1, q2⟩, _⟩
  · obtain ⟨ao', c', rfl, q5⟩ := own_sp (by rw [moved_length]; exact hl.len) h
    exact ⟨ao', c', e1, h3, q5⟩
  · exact absurd (hok s q1) q2
/-- Union, Cut, Less at sets whose result is known. -/
theorem union_is (ao bo : Option Addr) (m1 c1 m2 c2 : Nat) (a b r0 : List Sp) (ga : Good a) (gb : Good b) (g0 : Good r0) (h1 : m1 ≤ 1000000) (h2 : m2 ≤ 1000000) (w : World) (ha : SpAt w ao m1 c1 a) (hb : SpAt w bo m2 c2 b) (hs : ∀ t, mem r0 t ↔ mem a t ∨ mem b t) :
    Calls Try.prog 18 #[.slice ao m1 c1, .slice bo m2 c2] w fun e w' => ∃ ro rc, e = .returned (.slice ro r0.length rc) ∧ SpAt w' ro r0.length rc r0 ∧ Below w.heap.size w w' := by
  refine (union_any ao bo m1 c1 m2 c2 a b ga gb h1 h2 w ha hb).mono ?_
  rintro e w' ⟨v, r, e1, q1, q2, q3, q4, q5⟩
  obtain rfl : r = r0 := rt_unique q1 g0 (fun t => (q2 t).trans (hs t).symm)
  obtain ⟨ao', c', rfl, q6⟩ := own_sp rfl q4
  exact ⟨ao', c', e1, q6, q5⟩
theorem cut_is (ao bo : Option Addr) (m1 c1 m2 c2 : Nat) (a b r0 : List Sp) (ga : Good a) (gb : Good b) (g0 : Good r0) (h1 : m1 ≤ 1000000) (h2 : m2 ≤ 1000000) (w : World) (ha : SpAt w ao m1 c1 a) (hb : SpAt w bo m2 c2 b) (hs : ∀ t, mem r0 t ↔ mem a t ∧ mem b t) :
    Calls Try.prog 19 #[.slice ao m1 c1, .slice bo m2 c2] w fun e w' => ∃ ro rc, e = .returned (.slice ro r0.length rc) ∧ SpAt w' ro r0.length rc r0 ∧ Below w.heap.size w w' := by
  refine (cut_any ao bo m1 c1 m2 c2 a b ga gb h1 h2 w ha hb).mono ?_
  rintro e w' ⟨v, r, e1, q1, q2, q3, q4, q5⟩
  obtain rfl : r = r0 := rt_unique q1 g0 (fun t => (q2 t).trans (hs t).symm)
  obtain ⟨ao', c', rfl, q6⟩ := own_sp rfl q4
  exact ⟨ao', c', e1, q6, q5⟩
theorem less_is (ao bo : Option Addr) (m1 c1 m2 c2 : Nat) (a b r0 : List Sp) (ga : Good a) (gb : Good b) (g0 : Good r0) (h1 : m1 ≤ 1000000) (h2 : m2 ≤ 1000000) (w : World) (ha : SpAt w ao m1 c1 a) (hb : SpAt w bo m2 c2 b) (hs : ∀ t, mem r0 t ↔ mem a t ∧ ¬ mem b t) :
    Calls Try.prog 20 #[.slice ao m1 c1, .slice bo m2 c2] w fun e w' => ∃ ro rc, e = .returned (.slice ro r0.length rc) ∧ SpAt w' ro r0.length rc r0 ∧ Below w.heap.size w w' := by
  refine (less_any ao bo m1 c1 m2 c2 a b ga gb h1 h2 w ha hb).mono ?_
  rintro e w' ⟨v, r, e1, q1, q2, q3, q4, q5⟩
  obtain rfl : r = r0 := rt_unique q1 g0 (fun t => (q2 t).trans (hs t).symm)
  obtain ⟨ao', c', rfl, q6⟩ := own_sp rfl q4
  exact ⟨ao', c', e1, q6, q5⟩
theorem good_a : Good [(1, 3), (5, 7)] := by simp [Rt]
theorem good_b : Good [(1, 9)] := by simp [Rt]
theorem good_c : Good [(0, 2), (8, 12)] := by simp [Rt]
theorem good_d : Good [(5, 7)] := by simp [Rt]
theorem good_e : Good [(1, 3)] := by simp [Rt]
theorem good_f : Good [(4, 5)] := by simp [Rt]
theorem good_g : Good [(1, 5)] := by simp [Rt]
theorem good_h : Good [(1, 2), (8, 9)] := by simp [Rt]
theorem good_i : Good [(3, 7)] := by simp [Rt]
theorem good_j : Good [(1, 2), (5, 7)] := by simp [Rt]
theorem mem_a (t : Int) : mem [(1, 3), (5, 7)] t ↔ mem [(5, 7), (1, 2), (3, 3)] t := by simp [mem_cons, mem_nil]; omega
theorem mem_g (t : Int) : mem [(1, 5)] t ↔ mem [(1, 3)] t ∨ mem [(4, 5)] t := by simp [mem_cons, mem_nil]; omega
theorem mem_h (t : Int) : mem [(1, 2), (8, 9)] t ↔ mem [(1, 9)] t ∧ mem [(0, 2), (8, 12)] t := by simp [mem_cons, mem_nil]; omega
theorem mem_i (t : Int) : mem [(3, 7)] t ↔ mem [(1, 9)] t ∧ ¬ mem [(0, 2), (8, 12)] t := by simp [mem_cons, mem_nil]; omega
end Go.Proofs.Ythjpnnggghfepaa
