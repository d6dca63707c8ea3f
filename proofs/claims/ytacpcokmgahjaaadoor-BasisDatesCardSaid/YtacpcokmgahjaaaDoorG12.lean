/- Plainly: the next granule of the core. -/
import Derived.Test.YtacpcokmgahjaaaDoorG11
namespace Go.Proofs.YtacpcokmgahjaaaDoor
set_option linter.unusedVariables false
set_option linter.unusedSimpArgs false
open Go.ChangeShapes Go.WideShapes Go.ChangeAt Go.RowKit
/-- The next set with ticks of the core, one way. -/
structure Nxt (cs : List (List Sp)) (N a st j : Int) : Prop where
  far : ∃ d : Int, 1 ≤ d ∧ d ≤ 2 * N ∧ j = a + st * d ∧ ∀ k, 1 ≤ k → k < d → cset cs N (a + st * k) = []
  here : cset cs N j ≠ []
theorem fmod_of {N q r x : Int} (h : 0 ≤ r) (h2 : r < N) (e : x = N * q + r) : x.fmod N = r := by
  rw [Int.fmod_eq_emod_of_nonneg _ (by omega), e, Int.mul_add_emod_self_left, Int.emod_eq_of_lt h h2]
theorem fmod_eq (x N : Int) : x = N * (x.fdiv N) + x.fmod N := (Int.mul_fdiv_add_fmod x N).symm
theorem fmod_up {x N : Int} (h : 0 < N) : (x + 1).fmod N = if x.fmod N + 1 = N then 0 else x.fmod N + 1 := by
  obtain ⟨h1, h2⟩ := fmod_nat x h
  have e := fmod_eq x N
  by_cases q : x.fmod N + 1 = N
  · rw [if_pos q]
    refine fmod_of (q := x.fdiv N + 1) (Int.le_refl _) h ?_
    rw [Int.mul_add, Int.mul_one]; omega
  · rw [if_neg q]
    exact fmod_of (q := x.fdiv N) (by omega) (by omega) (by omega)
theorem fmod_dn {x N : Int} (h : 0 < N) : (x - 1).fmod N = if x.fmod N - 1 < 0 then N - 1 else x.fmod N - 1 := by
  obtain ⟨h1, h2⟩ := fmod_nat x h
  have e := fmod_eq x N
  by_cases q : x.fmod N - 1 < 0
  · rw [if_pos q]
    refine fmod_of (q := x.fdiv N - 1) (by omega) (by omega) ?_
    rw [Int.mul_sub, Int.mul_one]; omega
  · rw [if_neg q]
    exact fmod_of (q := x.fdiv N) (by omega) (by omega) (by omega)
theorem fmod_turn {x y N q : Int} (h : 0 < N) (e : x = y + N * q) : x.fmod N = y.fmod N := by
  obtain ⟨h1, h2⟩ := fmod_nat y h
  have := fmod_eq y N
  exact fmod_of (q := y.fdiv N + q) h1 h2 (by rw [Int.mul_add]; omega)
theorem cset_eq {cs : List (List Sp)} {N x y : Int} (h : x.fmod N = y.fmod N) : cset cs N x = cset cs N y := by unfold cset; rw [h]
theorem all_up {cs : List (List Sp)} {N a : Int} (h : 0 < N) (hk : ∀ k, 1 ≤ k → k ≤ N → cset cs N (a + 1 * k) = []) (i : Int) : cset cs N i = [] := by
  obtain ⟨h1, h2⟩ := fmod_nat (i - a - 1) h
  have e := fmod_eq (i - a - 1) N
  rw [← hk ((i - a - 1).fmod N + 1) (by omega) (by omega)]
  refine cset_eq (fmod_turn (q := (i - a - 1).fdiv N) h ?_)
  omega
theorem all_dn {cs : List (List Sp)} {N a : Int} (h : 0 < N) (hk : ∀ k, 1 ≤ k → k ≤ N → cset cs N (a + -1 * k) = []) (i : Int) : cset cs N i = [] := by
  obtain ⟨h1, h2⟩ := fmod_nat (a - i - 1) h
  have e := fmod_eq (a - i - 1) N
  rw [← hk ((a - i - 1).fmod N + 1) (by omega) (by omega)]
  refine cset_eq (fmod_turn (q := -(a - i - 1).fdiv N) h ?_)
  rw [Int.mul_neg]
  omega
theorem cset_full {cs : List (List Sp)} {N i : Int} (h : 0 < N) (hl : N = cs.length) : cset cs N i ≠ [] ↔ (i.fmod N).toNat ∈ fulls 0 cs := by
  obtain ⟨h1, h2⟩ := fmod_nat i h
  rw [mem_fulls]
  have hi : (i.fmod N).toNat < cs.length := by omega
  have e : cset cs N i = cs[(i.fmod N).toNat] := by unfold cset; rw [List.getD_eq_getElem?_getD, List.getElem?_eq_getElem hi]; rfl
  constructor
  · intro q
    exact ⟨_, hi, (Nat.zero_add _).symm, by rw [← e]; exact q⟩
  · rintro ⟨j, hj, e2, q⟩
    rw [Nat.zero_add] at e2
    rw [e]
    simpa only [e2] using q
theorem cset_empty {cs : List (List Sp)} {N i : Int} (h : 0 < N) (hl : N = cs.length) (q : (i.fmod N).toNat ∉ fulls 0 cs) : cset cs N i = [] := by
  by_cases e : cset cs N i = []
  · exact e
  · exact absurd ((cset_full h hl).1 e) q
/-- The walk by the list, up and down. -/
theorem nxt_up {cs : List (List Sp)} {N a : Int} {s n : Nat} (h : 0 < N) (hl : N = cs.length) (hs : a.fmod N = s) (hn : NIs (fulls 0 cs) (s + 1) n) (h0 : fulls 0 cs ≠ []) :
    (∀ q : n < (fulls 0 cs).length, Nxt cs N a 1 (a + (((fulls 0 cs)[n] : Nat) - s))) ∧ (n = (fulls 0 cs).length → ∀ q : 0 < (fulls 0 cs).length, Nxt cs N a 1 (a + (((fulls 0 cs)[0] : Nat) + N - s))) := by
  have e := fmod_eq a N
  rw [hs] at e
  have hb : ∀ j (q : j < (fulls 0 cs).length), (fulls 0 cs)[j] < cs.length := fun j q => by
    obtain ⟨k, hk, e2, _⟩ := mem_fulls.1 (List.getElem_mem q); omega
  have hm := fmod_nat a h
  rw [hs] at hm
  constructor
  · intro q
    have hq := hb n q
    have hx := hn.high n q (Nat.le_refl _)
    have hin := List.getElem_mem q
    obtain ⟨x, hxe⟩ : ∃ x, (fulls 0 cs)[n] = x := ⟨_, rfl⟩
    rw [hxe] at hq hx hin ⊢
    refine ⟨⟨(x : Int) - s, by omega, by omega, by omega, fun k k1 k2 => ?_⟩, ?_⟩
    · apply cset_empty h hl
      rw [fmod_of (q := a.fdiv N) (r := s + k) (by omega) (by omega) (by omega)]
      intro hm
      obtain ⟨j, hj, e2⟩ := List.getElem_of_mem hm
      by_cases z : j < n
      · have := hn.low j hj z; omega
      · have := ninc_le (fulls_inc 0 cs) n j q hj (by omega); omega
    · rw [cset_full h hl, fmod_of (q := a.fdiv N) (r := (x : Int)) (by omega) (by omega) (by omega)]
      simpa using hin
  · intro en q
    have hq := hb 0 q
    have hin := List.getElem_mem q
    have hfirst : ∀ y ∈ fulls 0 cs, (fulls 0 cs)[0] ≤ y := fun y hy => by
      obtain ⟨j, hj, e2⟩ := List.getElem_of_mem hy
      have := ninc_le (fulls_inc 0 cs) 0 j q hj (Nat.zero_le _); omega
    obtain ⟨x, hxe⟩ : ∃ x, (fulls 0 cs)[0] = x := ⟨_, rfl⟩
    rw [hxe] at hq hin hfirst ⊢
    refine ⟨⟨(x : Int) + N - s, by omega, by omega, by omega, fun k k1 k2 => ?_⟩, ?_⟩
    · apply cset_empty h hl
      intro hmem
      by_cases z : (s : Int) + k < N
      · rw [fmod_of (q := a.fdiv N) (r := s + k) (by omega) (by omega) (by omega)] at hmem
        obtain ⟨j, hj, e2⟩ := List.getElem_of_mem hmem
        have := hn.low j hj (by omega); omega
      · rw [fmod_of (q := a.fdiv N + 1) (r := s + k - N) (by omega) (by omega) (by rw [Int.mul_add, Int.mul_one]; omega)] at hmem
        have := hfirst _ hmem
        omega
    · rw [cset_full h hl, fmod_of (q := a.fdiv N + 1) (r := (x : Int)) (by omega) (by omega) (by rw [Int.mul_add, Int.mul_one]; omega)]
      simpa using hin
theorem nxt_dn {cs : List (List Sp)} {N a : Int} {s n : Nat} (h : 0 < N) (hl : N = cs.length) (hs : a.fmod N = s) (hn : NIs (fulls 0 cs) s n) (h0 : fulls 0 cs ≠ []) :
    (∀ m, n = m + 1 → ∀ q : m < (fulls 0 cs).length, Nxt cs N a (-1) (a + (((fulls 0 cs)[m] : Nat) - s))) ∧ (n = 0 → ∀ q : (fulls 0 cs).length - 1 < (fulls 0 cs).length, Nxt cs N a (-1) (a + (((fulls 0 cs)[(fulls 0 cs).length - 1] : Nat) - N - s))) := by
  have e := fmod_eq a N
  rw [hs] at e
  have hb : ∀ j (q : j < (fulls 0 cs).length), (fulls 0 cs)[j] < cs.length := fun j q => by
    obtain ⟨k, hk, e2, _⟩ := mem_fulls.1 (List.getElem_mem q); omega
  have hm := fmod_nat a h
  rw [hs] at hm
  constructor
  · intro m em q
    have hq := hb m q
    have hx := hn.low m q (by omega)
    have hin := List.getElem_mem q
    obtain ⟨x, hxe⟩ : ∃ x, (fulls 0 cs)[m] = x := ⟨_, rfl⟩
    rw [hxe] at hq hx hin ⊢
    refine ⟨⟨(s : Int) - x, by omega, by omega, by omega, fun k k1 k2 => ?_⟩, ?_⟩
    · apply cset_empty h hl
      rw [fmod_of (q := a.fdiv N) (r := s - k) (by omega) (by omega) (by omega)]
      intro hm
      obtain ⟨j, hj, e2⟩ := List.getElem_of_mem hm
      by_cases z : j < n
      · have := ninc_le (fulls_inc 0 cs) j m hj q (by omega); omega
      · have := hn.high j hj (by omega); omega
    · rw [cset_full h hl, fmod_of (q := a.fdiv N) (r := (x : Int)) (by omega) (by omega) (by omega)]
      simpa using hin
  · intro en q
    have hq := hb _ q
    have hin := List.getElem_mem q
    have hlast : ∀ y ∈ fulls 0 cs, y ≤ (fulls 0 cs)[(fulls 0 cs).length - 1] := fun y hy => by
      obtain ⟨j, hj, e2⟩ := List.getElem_of_mem hy
      have := ninc_le (fulls_inc 0 cs) j _ hj q (by omega); omega
    obtain ⟨x, hxe⟩ : ∃ x, (fulls 0 cs)[(fulls 0 cs).length - 1] = x := ⟨_, rfl⟩
    rw [hxe] at hq hin hlast ⊢
    refine ⟨⟨(s : Int) + N - x, by omega, by omega, by omega, fun k k1 k2 => ?_⟩, ?_⟩
    · apply cset_empty h hl
      intro hmem
      by_cases z : 0 ≤ (s : Int) - k
      · rw [fmod_of (q := a.fdiv N) (r := s - k) (by omega) (by omega) (by omega)] at hmem
        obtain ⟨j, hj, e2⟩ := List.getElem_of_mem hmem
        have := hn.high j hj (by omega); omega
      · rw [fmod_of (q := a.fdiv N - 1) (r := s - k + N) (by omega) (by omega) (by rw [Int.mul_sub, Int.mul_one]; omega)] at hmem
        have := hlast _ hmem
        omega
    · rw [cset_full h hl, fmod_of (q := a.fdiv N - 1) (r := (x : Int)) (by omega) (by omega) (by rw [Int.mul_sub, Int.mul_one]; omega)]
      simpa using hin
theorem none_full {cs : List (List Sp)} {N : Int} (h : 0 < N) (hl : N = cs.length) (h0 : fulls 0 cs = []) (i : Int) : cset cs N i = [] := cset_empty h hl (by rw [h0]; simp)
theorem cg_nil {cs : List (List Sp)} {P N i : Int} (h : 0 < N) (hl : N = cs.length) : cg cs P N i = [] ↔ cset cs N i = [] := by
  unfold cg
  rw [if_pos ⟨h, hl⟩]
  unfold moved
  rw [List.map_eq_nil_iff]
/-- What a step of the walk tells. -/
def NxOut (F : Fv) (a st : Int) (e : Ending) (a2 : Int) : Prop :=
  (∃ j, e = .returned (.tuple #[.int .i64 j, .bool true]) ∧ a2 = j ∧ Nxt F.cs F.N a st j ∧ F.Rep) ∨ (e = .returned (.tuple #[.int .i64 0, .bool false]) ∧ a2 = a ∧ ∀ i, cg F.cs F.P F.N i = [])
end Go.Proofs.YtacpcokmgahjaaaDoor
