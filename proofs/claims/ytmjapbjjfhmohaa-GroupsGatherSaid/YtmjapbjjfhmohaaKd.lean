/- G11, G12, G13c in one. -/
import Derived.Test.YtmjapbjjfhmohaaKc
import Derived.BigQuiet
import Derived.BigRegion
import Derived.Laws.AppendOwnNone
namespace Go.Proofs.Ytmjapbjjfhmohaa
set_option linter.unusedVariables false
set_option linter.unusedSimpArgs false
open Go.ChangeShapes Go.WideShapes Go.ChangeAt Go.RowKit
def natC (l : List Nat) : List Value := l.map (fun (n : Nat) => Value.int .i64 (n : Int))
theorem natC_len (l : List Nat) : (natC l).length = l.length := by simp [natC]
theorem natC_append (l k : List Nat) : natC (l ++ k) = natC l ++ natC k := by simp [natC]
theorem own_in {w : World} {B : Nat} {v : Value} {l : List Nat} (h : w.ownsRow B 3 1 v l.length (natC l)) : ∃ ao c, v = .slice ao l.length c ∧ InAt w ao l.length c l := by
  have hc := h
  rcases h.2 with ⟨rfl, h0⟩ | ⟨g, cap, cur, rfl, h2, h3, h4, h5, h6⟩
  · obtain rfl : l = [] := List.eq_nil_of_length_eq_zero h0
    exact ⟨none, 0, rfl, rfl, Nat.le_refl _, by omega, fun _ => ⟨rfl, rfl⟩, fun h => absurd h (Nat.lt_irrefl _)⟩
  · refine ⟨some ⟨g, 0, none⟩, cap, rfl, rfl, h4, by unfold maxLen at h5; omega, (by intro e; cases e), fun _ => ⟨g, 0, rfl, fun i hi => ?_⟩⟩
    have z1 := hc.cells (g := g) rfl i (.int .i64 (l[i] : Nat)) (by unfold natC; rw [List.getElem?_map, List.getElem?_eq_getElem hi]; rfl)
    rw [add_off] at z1
    exact z1
/-- The indices of the sets with ticks, in order. -/
def fulls : Nat → List (List Sp) → List Nat
  | _, [] => []
  | i, l :: r => if l ≠ [] then i :: fulls (i + 1) r else fulls (i + 1) r
theorem fulls_snoc : ∀ (i : Nat) (cs : List (List Sp)) (l : List Sp), fulls i (cs ++ [l]) = fulls i cs ++ (if l ≠ [] then [i + cs.length] else [])
  | i, [], l => by simp [fulls]
  | i, x :: r, l => by
    have := fulls_snoc (i + 1) r l
    simp only [List.cons_append, fulls, this, List.length_cons]
    rw [show i + 1 + r.length = i + (r.length + 1) by omega]
    by_cases h : x = [] <;> simp [h]
theorem mem_fulls : ∀ {i : Nat} {cs : List (List Sp)} {k : Nat}, k ∈ fulls i cs ↔ ∃ j, ∃ h : j < cs.length, k = i + j ∧ cs[j] ≠ []
  | i, [], k => by simp [fulls]
  | i, x :: r, k => by
    have ih := @mem_fulls (i + 1) r k
    constructor
    · intro h
      have : k = i ∧ x ≠ [] ∨ k ∈ fulls (i + 1) r := by
        unfold fulls at h
        by_cases q : x ≠ []
        · rw [if_pos q] at h
          rcases List.mem_cons.1 h with e | e
          · exact .inl ⟨e, q⟩
          · exact .inr e
        · rw [if_neg q] at h; exact .inr h
      rcases this with ⟨rfl, q⟩ | q
      · exact ⟨0, by simp, rfl, q⟩
      · obtain ⟨j, hj, rfl, hn⟩ := ih.1 q
        exact ⟨j + 1, by simpa using hj, by omega, by simpa using hn⟩
    · rintro ⟨j, hj, rfl, hn⟩
      unfold fulls
      cases j with
      | zero => rw [if_pos (by simpa using hn)]; simp
      | succ j =>
        have := ih.2 ⟨j, by simpa using hj, by omega, by simpa using hn⟩
        by_cases q : x ≠ []
        · rw [if_pos q]; exact List.mem_cons_of_mem _ this
        · rw [if_neg q]; exact this
theorem fulls_inc : ∀ (i : Nat) (cs : List (List Sp)), (fulls i cs).Pairwise (· < ·)
  | i, [] => List.Pairwise.nil
  | i, x :: r => by
    have ih := fulls_inc (i + 1) r
    unfold fulls
    by_cases q : x ≠ []
    · rw [if_pos q, List.pairwise_cons]
      exact ⟨fun k hk => by obtain ⟨j, hj, rfl, _⟩ := mem_fulls.1 hk; omega, ih⟩
    · rw [if_neg q]; exact ih
theorem fulls_len : ∀ (i : Nat) (cs : List (List Sp)), (fulls i cs).length ≤ cs.length
  | i, [] => Nat.le_refl _
  | i, x :: r => by
    have ih := fulls_len (i + 1) r
    unfold fulls
    by_cases q : x ≠ []
    · rw [if_pos q]; simp; exact ih
    · rw [if_neg q]; simp; omega
theorem fulls_take {cs : List (List Sp)} {i : Nat} (h : i < cs.length) : fulls 0 (cs.take (i + 1)) = fulls 0 (cs.take i) ++ (if cs[i] ≠ [] then [i] else []) := by
  rw [List.take_succ_eq_append_getElem h, fulls_snoc, List.length_take, Nat.min_eq_left (by omega), Nat.zero_add]
abbrev wbox (F : Fv) (at_ st ps : Int) (v : Value) : Array Value := #[.int .i64 F.P, .int .i64 F.N, .slice F.co F.cn F.cc, .slice F.oo F.on F.oc, .int .i64 at_, .int .i64 st, .int .i64 ps, v]
/-- A walk in memory. -/
structure Wk (F : Fv) (w0 w : World) (B b : Nat) (at_ st ps : Int) (v : Value) (L : List Nat) : Prop where
  f : F.At w0
  bw : Below w0.heap.size w0 w
  lo : w0.heap.size ≤ b
  hi : b < B
  sz : B ≤ w.heap.size
  blk : w.heap[b]? = some (.cells (wbox F at_ st ps v) 112 (0, 0))
  own : w.ownsRow B 3 1 v L.length (natC L)
theorem Wk.grown {F : Fv} {w0 w w' : World} {B b : Nat} {at_ st ps : Int} {v : Value} {L : List Nat} {row : Option Nat} (h : Wk F w0 w B b at_ st ps v L) (hg : w.grownBy w' row) (hr : ∀ q, row = some q → w0.heap.size ≤ q ∧ q < B ∧ q ≠ b) : Wk F w0 w' B b at_ st ps v L :=
  ⟨h.f, h.bw.grown hg (Nat.le_trans (Nat.le_of_lt (Nat.lt_of_le_of_lt h.lo h.hi)) h.sz) (fun k hk => (hr k hk).1), h.lo, h.hi, Nat.le_trans h.sz hg.size,
   (hg.block b (Nat.lt_of_lt_of_le h.hi h.sz) (fun e => (hr b e.symm).2.2 rfl)).trans h.blk,
   h.own.kept hg (by
    cases e : v.ownBlock with
    | none => exact .inl rfl
    | some g =>
      refine .inr (fun q => ?_)
      have := (hr g q.symm).2.1
      have := (h.own.lt g e).1
      omega)⟩
theorem grown_of_below {w w' : World} (h : Below w.heap.size w w') : w.grownBy w' none := ⟨h.os, h.tape, h.output, h.size, fun k hk _ => h.block k hk⟩
theorem Wk.keep {F : Fv} {w0 w w' : World} {B b : Nat} {at_ st ps : Int} {v : Value} {L : List Nat} (h : Wk F w0 w B b at_ st ps v L) (k : Below w.heap.size w w') : Wk F w0 w' B b at_ st ps v L := h.grown (grown_of_below k) (fun q e => by cases e)
theorem Wk.at0 {F : Fv} {w0 w : World} {B b : Nat} {at_ st ps : Int} {v : Value} {L : List Nat} (h : Wk F w0 w B b at_ st ps v L) : F.At w := h.f.keep h.bw
theorem Wk.cell {F : Fv} {w0 w : World} {B b : Nat} {at_ st ps : Int} {v : Value} {L : List Nat} (h : Wk F w0 w B b at_ st ps v L) (k : Nat) : w.cell? ⟨b, k, none⟩ = (wbox F at_ st ps v)[k]? := by
  unfold World.cell?; rw [h.blk]; rfl
theorem Wk.free {F : Fv} {w0 w : World} {B b : Nat} {at_ st ps : Int} {v : Value} {L : List Nat} (h : Wk F w0 w B b at_ st ps v L) (k : Nat) : w.frozen? ⟨b, k, none⟩ = false := by
  unfold World.frozen?; rw [h.blk]; simp
theorem set_block {w : World} {b : Nat} {c : Array Value} {t : TypeId} (h : w.heap[b]? = some (.cells c t (0, 0))) (k : Nat) (u : Value) : (w.setCell ⟨b, k, none⟩ u).heap[b]? = some (.cells (c.setIfInBounds k u) t (0, 0)) := by
  unfold World.setCell
  simp only [Array.getElem?_modify, h, if_true, Option.map_some, Option.isSome_none, Bool.false_eq_true, if_false]
theorem Wk.put {F : Fv} {w0 w : World} {B b : Nat} {at_ st ps : Int} {v : Value} {L : List Nat} (h : Wk F w0 w B b at_ st ps v L) (k : Nat) (u : Value) {at2 st2 ps2 : Int} {v2 : Value} {L2 : List Nat} (he : (wbox F at_ st ps v).setIfInBounds k u = wbox F at2 st2 ps2 v2) (ho : w.ownsRow B 3 1 v2 L2.length (natC L2)) : Wk F w0 (w.setCell ⟨b, k, none⟩ u) B b at2 st2 ps2 v2 L2 := by
  have hg : w.grownBy (w.setCell ⟨b, k, none⟩ u) (some b) := ⟨rfl, rfl, rfl, by simp [World.setCell], fun q hq hne => Below.heap_setCell _ _ _ _ (by intro e; exact hne (by rw [e]))⟩
  refine ⟨h.f, h.bw.setCell (p := ⟨b, k, none⟩) h.lo u, h.lo, h.hi, Nat.le_trans h.sz hg.size, ?_, ho.kept hg ?_⟩
  · rw [set_block h.blk, he]
  · cases e : v2.ownBlock with
    | none => exact .inl rfl
    | some g =>
      refine .inr (fun q => ?_)
      cases q
      have := (ho.lt b e).1
      have := h.hi
      omega
/-- The next set with ticks of the core, one way. -/
structure Nxt (cs : List (List Sp)) (N a st j : Int) : Prop where
  far : ∃ d : Int, 1 ≤ d ∧ d ≤ 2 * N ∧ j = a + st * d ∧ ∀ k, 1 ≤ k → k < d → cset cs N (a + st * k) = []
  here : cset cs N j ≠ []
theorem fmod_of {N q r x : Int} (h : 0 ≤ r) (h2 : r < N) (e : x = N * q + r) : x.fmod N = r := by
  rw [Int.fmod_eq_emod_of_nonneg _ (by omega), e, Int.mul_add_emod_self_left, Int.emod_eq_of_lt h h2]
theorem fmod_eq (x N : Int) : x = N * (x.fdiv N) + x.fmod N := (Int.mul_fdiv_add_fmod x N).symm
theorem fmod_up {x N : Int} (h : 0 < N) : (x + 1).fmod N = if x.fmod N + 1 = N then 0 else x.fmod N + 1 := by
  obtain ⟨h1, h2⟩ := fmod_nat x h
  have e := fmod_eq x N
  by_cases q : x.fmod N + 1 = N
  · rw [if_pos q]
    refine fmod_of (q := x.fdiv N + 1) (Int.le_refl _) h ?_
    rw [Int.mul_add, Int.mul_one]; omega
  · rw [if_neg q]
    exact fmod_of (q := x.fdiv N) (by omega) (by omega) (by omega)
theorem fmod_dn {x N : Int} (h : 0 < N) : (x - 1).fmod N = if x.fmod N - 1 < 0 then N - 1 else x.fmod N - 1 := by
  obtain ⟨h1, h2⟩ := fmod_nat x h
  have e := fmod_eq x N
  by_cases q : x.fmod N - 1 < 0
  · rw [if_pos q]
    refine fmod_of (q := x.fdiv N - 1) (by omega) (by omega) ?_
    rw [Int.mul_sub, Int.mul_one]; omega
  · rw [if_neg q]
    exact fmod_of (q := x.fdiv N) (by omega) (by omega) (by omega)
theorem fmod_turn {x y N q : Int} (h : 0 < N) (e : x = y + N * q) : x.fmod N = y.fmod N := by
  obtain ⟨h1, h2⟩ := fmod_nat y h
  have := fmod_eq y N
  exact fmod_of (q := y.fdiv N + q) h1 h2 (by rw [Int.mul_add]; omega)
theorem cset_eq {cs : List (List Sp)} {N x y : Int} (h : x.fmod N = y.fmod N) : cset cs N x = cset cs N y := by unfold cset; rw [h]
theorem all_up {cs : List (List Sp)} {N a : Int} (h : 0 < N) (hk : ∀ k, 1 ≤ k → k ≤ N → cset cs N (a + 1 * k) = []) (i : Int) : cset cs N i = [] := by
  obtain ⟨h1, h2⟩ := fmod_nat (i - a - 1) h
  have e := fmod_eq (i - a - 1) N
  rw [← hk ((i - a - 1).fmod N + 1) (by omega) (by omega)]
  refine cset_eq (fmod_turn (q := (i - a - 1).fdiv N) h ?_)
  omega
theorem all_dn {cs : List (List Sp)} {N a : Int} (h : 0 < N) (hk : ∀ k, 1 ≤ k → k ≤ N → cset cs N (a + -1 * k) = []) (i : Int) : cset cs N i = [] := by
  obtain ⟨h1, h2⟩ := fmod_nat (a - i - 1) h
  have e := fmod_eq (a - i - 1) N
  rw [← hk ((a - i - 1).fmod N + 1) (by omega) (by omega)]
  refine cset_eq (fmod_turn (q := -(a - i - 1).fdiv N) h ?_)
  rw [Int.mul_neg]
  omega
theorem cset_full {cs : List (List Sp)} {N i : Int} (h : 0 < N) (hl : N = cs.length) : cset cs N i ≠ [] ↔ (i.fmod N).toNat ∈ fulls 0 cs := by
  obtain ⟨h1, h2⟩ := fmod_nat i h
  rw [mem_fulls]
  have hi : (i.fmod N).toNat < cs.length := by omega
  have e : cset cs N i = cs[(i.fmod N).toNat] := by unfold cset; rw [List.getD_eq_getElem?_getD, List.getElem?_eq_getElem hi]; rfl
  constructor
  · intro q
    exact ⟨_, hi, (Nat.zero_add _).symm, by rw [← e]; exact q⟩
  · rintro ⟨j, hj, e2, q⟩
    rw [Nat.zero_add] at e2
    rw [e]
    simpa only [e2] using q
theorem cset_empty {cs : List (List Sp)} {N i : Int} (h : 0 < N) (hl : N = cs.length) (q : (i.fmod N).toNat ∉ fulls 0 cs) : cset cs N i = [] := by
  by_cases e : cset cs N i = []
  · exact e
  · exact absurd ((cset_full h hl).1 e) q
/-- The walk by the list, up and down. -/
theorem nxt_up {cs : List (List Sp)} {N a : Int} {s n : Nat} (h : 0 < N) (hl : N = cs.length) (hs : a.fmod N = s) (hn : NIs (fulls 0 cs) (s + 1) n) (h0 : fulls 0 cs ≠ []) :
    (∀ q : n < (fulls 0 cs).length, Nxt cs N a 1 (a + (((fulls 0 cs)[n] : Nat) - s))) ∧ (n = (fulls 0 cs).length → ∀ q : 0 < (fulls 0 cs).length, Nxt cs N a 1 (a + (((fulls 0 cs)[0] : Nat) + N - s))) := by
  have e := fmod_eq a N
  rw [hs] at e
  have hb : ∀ j (q : j < (fulls 0 cs).length), (fulls 0 cs)[j] < cs.length := fun j q => by
    obtain ⟨k, hk, e2, _⟩ := mem_fulls.1 (List.getElem_mem q); omega
  have hm := fmod_nat a h
  rw [hs] at hm
  constructor
  · intro q
    have hq := hb n q
    have hx := hn.high n q (Nat.le_refl _)
    have hin := List.getElem_mem q
    obtain ⟨x, hxe⟩ : ∃ x, (fulls 0 cs)[n] = x := ⟨_, rfl⟩
    rw [hxe] at hq hx hin ⊢
    refine ⟨⟨(x : Int) - s, by omega, by omega, by omega, fun k k1 k2 => ?_⟩, ?_⟩
    · apply cset_empty h hl
      rw [fmod_of (q := a.fdiv N) (r := s + k) (by omega) (by omega) (by omega)]
      intro hm
      obtain ⟨j, hj, e2⟩ := List.getElem_of_mem hm
      by_cases z : j < n
      · have := hn.low j hj z; omega
      · have := ninc_le (fulls_inc 0 cs) n j q hj (by omega); omega
    · rw [cset_full h hl, fmod_of (q := a.fdiv N) (r := (x : Int)) (by omega) (by omega) (by omega)]
      simpa using hin
  · intro en q
    have hq := hb 0 q
    have hin := List.getElem_mem q
    have hfirst : ∀ y ∈ fulls 0 cs, (fulls 0 cs)[0] ≤ y := fun y hy => by
      obtain ⟨j, hj, e2⟩ := List.getElem_of_mem hy
      have := ninc_le (fulls_inc 0 cs) 0 j q hj (Nat.zero_le _); omega
    obtain ⟨x, hxe⟩ : ∃ x, (fulls 0 cs)[0] = x := ⟨_, rfl⟩
    rw [hxe] at hq hin hfirst ⊢
    refine ⟨⟨(x : Int) + N - s, by omega, by omega, by omega, fun k k1 k2 => ?_⟩, ?_⟩
    · apply cset_empty h hl
      intro hmem
      by_cases z : (s : Int) + k < N
      · rw [fmod_of (q := a.fdiv N) (r := s + k) (by omega) (by omega) (by omega)] at hmem
        obtain ⟨j, hj, e2⟩ := List.getElem_of_mem hmem
        have := hn.low j hj (by omega); omega
      · rw [fmod_of (q := a.fdiv N + 1) (r := s + k - N) (by omega) (by omega) (by rw [Int.mul_add, Int.mul_one]; omega)] at hmem
        have := hfirst _ hmem
        omega
    · rw [cset_full h hl, fmod_of (q := a.fdiv N + 1) (r := (x : Int)) (by omega) (by omega) (by rw [Int.mul_add, Int.mul_one]; omega)]
      simpa using hin
theorem nxt_dn {cs : List (List Sp)} {N a : Int} {s n : Nat} (h : 0 < N) (hl : N = cs.length) (hs : a.fmod N = s) (hn : NIs (fulls 0 cs) s n) (h0 : fulls 0 cs ≠ []) :
    (∀ m, n = m + 1 → ∀ q : m < (fulls 0 cs).length, Nxt cs N a (-1) (a + (((fulls 0 cs)[m] : Nat) - s))) ∧ (n = 0 → ∀ q : (fulls 0 cs).length - 1 < (fulls 0 cs).length, Nxt cs N a (-1) (a + (((fulls 0 cs)[(fulls 0 cs).length - 1] : Nat) - N - s))) := by
  have e := fmod_eq a N
  rw [hs] at e
  have hb : ∀ j (q : j < (fulls 0 cs).length), (fulls 0 cs)[j] < cs.length := fun j q => by
    obtain ⟨k, hk, e2, _⟩ := mem_fulls.1 (List.getElem_mem q); omega
  have hm := fmod_nat a h
  rw [hs] at hm
  constructor
  · intro m em q
    have hq := hb m q
    have hx := hn.low m q (by omega)
    have hin := List.getElem_mem q
    obtain ⟨x, hxe⟩ : ∃ x, (fulls 0 cs)[m] = x := ⟨_, rfl⟩
    rw [hxe] at hq hx hin ⊢
    refine ⟨⟨(s : Int) - x, by omega, by omega, by omega, fun k k1 k2 => ?_⟩, ?_⟩
    · apply cset_empty h hl
      rw [fmod_of (q := a.fdiv N) (r := s - k) (by omega) (by omega) (by omega)]
      intro hm
      obtain ⟨j, hj, e2⟩ := List.getElem_of_mem hm
      by_cases z : j < n
      · have := ninc_le (fulls_inc 0 cs) j m hj q (by omega); omega
      · have := hn.high j hj (by omega); omega
    · rw [cset_full h hl, fmod_of (q := a.fdiv N) (r := (x : Int)) (by omega) (by omega) (by omega)]
      simpa using hin
  · intro en q
    have hq := hb _ q
    have hin := List.getElem_mem q
    have hlast : ∀ y ∈ fulls 0 cs, y ≤ (fulls 0 cs)[(fulls 0 cs).length - 1] := fun y hy => by
      obtain ⟨j, hj, e2⟩ := List.getElem_of_mem hy
      have := ninc_le (fulls_inc 0 cs) j _ hj q (by omega); omega
    obtain ⟨x, hxe⟩ : ∃ x, (fulls 0 cs)[(fulls 0 cs).length - 1] = x := ⟨_, rfl⟩
    rw [hxe] at hq hin hlast ⊢
    refine ⟨⟨(s : Int) + N - x, by omega, by omega, by omega, fun k k1 k2 => ?_⟩, ?_⟩
    · apply cset_empty h hl
      intro hmem
      by_cases z : 0 ≤ (s : Int) - k
      · rw [fmod_of (q := a.fdiv N) (r := s - k) (by omega) (by omega) (by omega)] at hmem
        obtain ⟨j, hj, e2⟩ := List.getElem_of_mem hmem
        have := hn.high j hj (by omega); omega
      · rw [fmod_of (q := a.fdiv N - 1) (r := s - k + N) (by omega) (by omega) (by rw [Int.mul_sub, Int.mul_one]; omega)] at hmem
        have := hlast _ hmem
        omega
    · rw [cset_full h hl, fmod_of (q := a.fdiv N - 1) (r := (x : Int)) (by omega) (by omega) (by rw [Int.mul_sub, Int.mul_one]; omega)]
      simpa using hin
theorem none_full {cs : List (List Sp)} {N : Int} (h : 0 < N) (hl : N = cs.length) (h0 : fulls 0 cs = []) (i : Int) : cset cs N i = [] := cset_empty h hl (by rw [h0]; simp)
theorem cg_nil {cs : List (List Sp)} {P N i : Int} (h : 0 < N) (hl : N = cs.length) : cg cs P N i = [] ↔ cset cs N i = [] := by
  unfold cg
  rw [if_pos ⟨h, hl⟩]
  unfold moved
  rw [List.map_eq_nil_iff]
/-- What a step of the walk tells. -/
def NxOut (F : Fv) (a st : Int) (e : Ending) (a2 : Int) : Prop :=
  (∃ j, e = .returned (.tuple #[.int .i64 j, .bool true]) ∧ a2 = j ∧ Nxt F.cs F.N a st j ∧ F.Rep) ∨ (e = .returned (.tuple #[.int .i64 0, .bool false]) ∧ a2 = a ∧ ∀ i, cg F.cs F.P F.N i = [])
theorem info3 : (Try.prog.info? 3).map (fun i => (i.zero, i.size, i.bytes)) = some (some (.int .i64 0), 1, 8) := by kernel_rfl
/-- One number more, behind numbers of the call's own. -/
theorem appI {wr : World} {ops : Array Oper} {rest : List Oper} {o : Oper} {a : Act} {Q : Exit → Act → World → Prop} (hgd : o.guard = none) (s x : Operand)
    (ho : o.op = .call { callee := .builtin .append, args := #[s, x], argTypes := #[33, 33] }) (B : Nat) (v : Value) (l : List Nat) (hs : a.eval s = v) (hown : wr.ownsRow B 3 1 v l.length (natC l)) (y : Nat) (tt : TypeId) (H : Nat) (hH : wr.heap.size = H) (hx : a.eval x = .slice (some ⟨H, 0, none⟩) 1 1) (hn : l.length ≤ 1000000) (hB : B ≤ wr.heap.size)
    (h : ∀ v' w', w'.ownsRow B 3 1 v' (l.length + 1) (natC (l ++ [y])) → (wr.alloc (.cells #[.int .i64 (y : Int)] tt)).grownBy w' v.ownBlock → wpList Try.prog ops Q rest (a.put o.dst v') w') : wpList Try.prog ops Q (o :: rest) a (wr.alloc (.cells #[.int .i64 (y : Int)] tt)) := by
  subst hH
  obtain ⟨i0, hi, hz0, hz1, hz2⟩ := info_parts info3
  have KA := (Below.refl _ wr).alloc (Nat.le_refl _) (.cells #[.int .i64 (y : Int)] tt)
  have hcell : ∀ (j : Nat) (u : Value), (natC [y])[j]? = some u → (wr.alloc (.cells #[.int .i64 (y : Int)] tt)).cell? ((⟨wr.heap.size, 0, none⟩ : Addr).add j) = some u := by
    intro j u hu
    have hh : (wr.alloc (.cells #[.int .i64 (y : Int)] tt)).heap[wr.heap.size]? = some (.cells #[.int .i64 (y : Int)] tt) := by
      show (wr.heap.push _)[wr.heap.size]? = _
      simp
    rw [add_off, Nat.zero_add]
    unfold World.cell?
    rw [hh]
    simpa [natC] using hu
  refine wpList_append_own_at _ hgd s x 33 ho B 3 i0 (.int .i64 0) 1 8 Try.underlying33 hi hz0 hz1 hz2 rfl (by decide) v l.length (natC l) hs (keepB hown KA) ⟨wr.heap.size, 0, none⟩ 1 1 (natC [y]) hx (by simp [natC]) hcell (by intro z hz; simp [natC] at hz; subst hz; rfl) (by unfold maxLen; omega) (by omega) (by simp; omega) ?_
  intro v' w' hown' hgro _ _
  exact h v' w' (by rw [natC_append]; exact hown') hgro
theorem Wk.app {F : Fv} {w0 w w' : World} {B b : Nat} {at_ st ps : Int} {v v2 : Value} {L L2 : List Nat} {o : Obj} (h : Wk F w0 w B b at_ st ps v L) (hg : (w.alloc o).grownBy w' v.ownBlock) (ho : w'.ownsRow B 3 1 v2 L2.length (natC L2)) :
    w'.heap[b]? = some (.cells (wbox F at_ st ps v) 112 (0, 0)) ∧ Wk F w0 (w'.setCell ⟨b, 7, none⟩ v2) B b at_ st ps v2 L2 := by
  have h1 := h.keep ((Below.refl _ w).alloc (Nat.le_refl _) o)
  have hne : ∀ q, v.ownBlock = some q → B ≤ q := fun q e => (h1.own.lt q e).1
  have hb : w'.heap[b]? = some (.cells (wbox F at_ st ps v) 112 (0, 0)) := (hg.block b (Nat.lt_of_lt_of_le h1.hi h1.sz) (fun e => by have := hne b e.symm; have := h.hi; omega)).trans h1.blk
  refine ⟨hb, ?_⟩
  have hB0 : w0.heap.size ≤ B := Nat.le_trans h.lo (Nat.le_of_lt h.hi)
  have hgb : w'.grownBy (w'.setCell ⟨b, 7, none⟩ v2) (some b) := ⟨rfl, rfl, rfl, by simp [World.setCell], fun q hq hne => Below.heap_setCell _ _ _ _ (by intro e; exact hne (by rw [e]))⟩
  refine ⟨h.f, (h1.bw.grown hg (Nat.le_trans hB0 h1.sz) (fun k hk => Nat.le_trans hB0 (hne k hk))).setCell (p := ⟨b, 7, none⟩) h.lo v2, h.lo, h.hi, Nat.le_trans h1.sz (Nat.le_trans hg.size hgb.size), ?_, ho.kept hgb ?_⟩
  · rw [set_block hb]; rfl
  · cases e : v2.ownBlock with
    | none => exact .inl rfl
    | some g =>
      refine .inr (fun q => ?_)
      cases q
      have := (ho.lt b e).1
      have := h.hi
      omega
theorem Wk.base {F : Fv} {w0 w : World} {B B2 b : Nat} {at_ st ps : Int} {v : Value} {L : List Nat} (h : Wk F w0 w B2 b at_ st ps v L) (hb : b < B) (h2 : B ≤ B2) : Wk F w0 w B b at_ st ps v L := ⟨h.f, h.bw, h.lo, hb, Nat.le_trans h2 h.sz, h.blk, own_base h.own h2⟩
theorem grown_put {w w' : World} {b : Nat} (h : w.grownBy w' (some b)) (k : Nat) (u : Value) : w.grownBy ((w'.setCell ⟨b, k, none⟩ u).drew) (some b) := ⟨h.os, h.tape, h.output, by simpa [World.setCell, World.drew] using h.size, fun q hq hne => (Below.heap_setCell _ _ _ _ (by intro e; exact hne (by rw [e]))).trans (h.block q hq hne)⟩
theorem blk_cell {F : Fv} {w : World} {b : Nat} {at_ st ps : Int} {v : Value} (h : w.heap[b]? = some (.cells (wbox F at_ st ps v) 112 (0, 0))) : w.cell? ⟨b, 7, none⟩ = some v ∧ w.frozen? ⟨b, 7, none⟩ = false := by
  constructor
  · unfold World.cell?; rw [h]; rfl
  · unfold World.frozen?; rw [h]; simp
theorem grown_app {w wr w3 : World} {b n : Nat} {o : Obj} {v v3 : Value} {xs : List Value} (hg : w.grownBy wr (some b)) (ho : wr.ownsRow w.heap.size 3 1 v n xs) (h3 : (wr.alloc o).grownBy w3 v.ownBlock) : w.grownBy (w3.setCell ⟨b, 7, none⟩ v3) (some b) := by
  have h1 := (hg.andThen (World.grownBy_alloc wr o none) (fun j e => by cases e)).andThen h3 (fun j e => .inl (ho.lt j e).1)
  exact ⟨h1.os, h1.tape, h1.output, by simpa [World.setCell] using h1.size, fun q hq hne => (Below.heap_setCell _ _ _ _ (by intro e; exact hne (by rw [e]))).trans (h1.block q hq hne)⟩
def Ready (F : Fv) (v : Value) (L : List Nat) : Prop := v = .slice none 0 0 ∨ L = fulls 0 F.cs
/-- What a step leaves. -/
def WkOut (F : Fv) (w0 w : World) (B b : Nat) (a st : Int) (e : Ending) (w' : World) : Prop := ∃ a2 ps2 v2 L2, Wk F w0 w' B b a2 st ps2 v2 L2 ∧ Ready F v2 L2 ∧ NxOut F a st e a2 ∧ 0 ≤ ps2 ∧ ps2 ≤ 2 * F.cn ∧ w.grownBy w' (some b)
end Go.Proofs.Ytmjapbjjfhmohaa
