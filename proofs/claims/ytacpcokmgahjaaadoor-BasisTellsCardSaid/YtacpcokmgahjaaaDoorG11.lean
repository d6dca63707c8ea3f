/- The walk over the core: its memory; plainly, the next granule of the core. -/
import Derived.Test.YtacpcokmgahjaaaDoorG10
namespace Go.Proofs.YtacpcokmgahjaaaDoor
set_option linter.unusedVariables false
set_option linter.unusedSimpArgs false
open Go.ChangeShapes Go.WideShapes Go.ChangeAt Go.RowKit
def natC (l : List Nat) : List Value := l.map (fun (n : Nat) => Value.int .i64 (n : Int))
theorem natC_len (l : List Nat) : (natC l).length = l.length := by simp [natC]
theorem natC_append (l k : List Nat) : natC (l ++ k) = natC l ++ natC k := by simp [natC]
theorem own_in {w : World} {B : Nat} {v : Value} {l : List Nat} (h : w.ownsRow B 3 1 v l.length (natC l)) : ∃ ao c, v = .slice ao l.length c ∧ InAt w ao l.length c l := by
  have hc := h
  rcases h.2 with ⟨rfl, h0⟩ | ⟨g, cap, cur, rfl, h2, h3, h4, h5, h6⟩
  · obtain rfl : l = [] := List.eq_nil_of_length_eq_zero h0
    exact ⟨none, 0, rfl, rfl, Nat.le_refl _, by omega, fun _ => ⟨rfl, rfl⟩, fun h => absurd h (Nat.lt_irrefl _)⟩
  · refine ⟨some ⟨g, 0, none⟩, cap, rfl, rfl, h4, by unfold maxLen at h5; omega, (by intro e; cases e), fun _ => ⟨g, 0, rfl, fun i hi => ?_⟩⟩
    have z1 := hc.cells (g := g) rfl i (.int .i64 (l[i] : Nat)) (by unfold natC; rw [List.getElem?_map, List.getElem?_eq_getElem hi]; rfl)
    rw [add_off] at z1
    exact z1
/-- The indices of the sets with ticks, in order. -/
def fulls : Nat → List (List Sp) → List Nat
  | _, [] => []
  | i, l :: r => if l ≠ [] then i :: fulls (i + 1) r else fulls (i + 1) r
theorem fulls_snoc : ∀ (i : Nat) (cs : List (List Sp)) (l : List Sp), fulls i (cs ++ [l]) = fulls i cs ++ (if l ≠ [] then [i + cs.length] else [])
  | i, [], l => by simp [fulls]
  | i, x :: r, l => by
    have := fulls_snoc (i + 1) r l
    simp only [List.cons_append, fulls, this, List.length_cons]
    rw [show i + 1 + r.length = i + (r.length + 1) by omega]
    by_cases h : x = [] <;> simp [h]
theorem mem_fulls : ∀ {i : Nat} {cs : List (List Sp)} {k : Nat}, k ∈ fulls i cs ↔ ∃ j, ∃ h : j < cs.length, k = i + j ∧ cs[j] ≠ []
  | i, [], k => by simp [fulls]
  | i, x :: r, k => by
    have ih := @mem_fulls (i + 1) r k
    constructor
    · intro h
      have : k = i ∧ x ≠ [] ∨ k ∈ fulls (i + 1) r := by
        unfold fulls at h
        by_cases q : x ≠ []
        · rw [if_pos q] at h
          rcases List.mem_cons.1 h with e | e
          · exact .inl ⟨e, q⟩
          · exact .inr e
        · rw [if_neg q] at h; exact .inr h
      rcases this with ⟨rfl, q⟩ | q
      · exact ⟨0, by simp, rfl, q⟩
      · obtain ⟨j, hj, rfl, hn⟩ := ih.1 q
        exact ⟨j + 1, by simpa using hj, by omega, by simpa using hn⟩
    · rintro ⟨j, hj, rfl, hn⟩
      unfold fulls
      cases j with
      | zero => rw [if_pos (by simpa using hn)]; simp
      | succ j =>
        have := ih.2 ⟨j, by simpa using hj, by omega, by simpa using hn⟩
        by_cases q : x ≠ []
        · rw [if_pos q]; exact List.mem_cons_of_mem _ this
        · rw [if_neg q]; exact this
theorem fulls_inc : ∀ (i : Nat) (cs : List (List Sp)), (fulls i cs).Pairwise (· < ·)
  | i, [] => List.Pairwise.nil
  | i, x :: r => by
    have ih := fulls_inc (i + 1) r
    unfold fulls
    by_cases q : x ≠ []
    · rw [if_pos q, List.pairwise_cons]
      exact ⟨fun k hk => by obtain ⟨j, hj, rfl, _⟩ := mem_fulls.1 hk; omega, ih⟩
    · rw [if_neg q]; exact ih
theorem fulls_len : ∀ (i : Nat) (cs : List (List Sp)), (fulls i cs).length ≤ cs.length
  | i, [] => Nat.le_refl _
  | i, x :: r => by
    have ih := fulls_len (i + 1) r
    unfold fulls
    by_cases q : x ≠ []
    · rw [if_pos q]; simp; exact ih
    · rw [if_neg q]; simp; omega
theorem fulls_take {cs : List (List Sp)} {i : Nat} (h : i < cs.length) : fulls 0 (cs.take (i + 1)) = fulls 0 (cs.take i) ++ (if cs[i] ≠ [] then [i] else []) := by
  rw [List.take_succ_eq_append_getElem h, fulls_snoc, List.length_take, Nat.min_eq_left (by omega), Nat.zero_add]
abbrev wbox (F : Fv) (at_ st ps : Int) (v : Value) : Array Value := #[.int .i64 F.P, .int .i64 F.N, .slice F.co F.cn F.cc, .slice F.oo F.on F.oc, .int .i64 at_, .int .i64 st, .int .i64 ps, v]
/-- A walk in memory. -/
structure Wk (F : Fv) (w0 w : World) (B b : Nat) (at_ st ps : Int) (v : Value) (L : List Nat) : Prop where
  f : F.At w0
  bw : Below w0.heap.size w0 w
  lo : w0.heap.size ≤ b
  hi : b < B
  sz : B ≤ w.heap.size
  blk : w.heap[b]? = some (.cells (wbox F at_ st ps v) 151 (0, 0))
  own : w.ownsRow B 3 1 v L.length (natC L)
theorem Wk.grown {F : Fv} {w0 w w' : World} {B b : Nat} {at_ st ps : Int} {v : Value} {L : List Nat} {row : Option Nat} (h : Wk F w0 w B b at_ st ps v L) (hg : w.grownBy w' row) (hr : ∀ q, row = some q → w0.heap.size ≤ q ∧ q < B ∧ q ≠ b) : Wk F w0 w' B b at_ st ps v L :=
  ⟨h.f, h.bw.grown hg (Nat.le_trans (Nat.le_of_lt (Nat.lt_of_le_of_lt h.lo h.hi)) h.sz) (fun k hk => (hr k hk).1), h.lo, h.hi, Nat.le_trans h.sz hg.size,
   (hg.block b (Nat.lt_of_lt_of_le h.hi h.sz) (fun e => (hr b e.symm).2.2 rfl)).trans h.blk,
   h.own.kept hg (by
    cases e : v.ownBlock with
    | none => exact .inl rfl
    | some g =>
      refine .inr (fun q => ?_)
      have := (hr g q.symm).2.1
      have := (h.own.lt g e).1
      omega)⟩
theorem grown_of_below {w w' : World} (h : Below w.heap.size w w') : w.grownBy w' none := ⟨h.os, h.tape, h.output, h.size, fun k hk _ => h.block k hk⟩
theorem Wk.keep {F : Fv} {w0 w w' : World} {B b : Nat} {at_ st ps : Int} {v : Value} {L : List Nat} (h : Wk F w0 w B b at_ st ps v L) (k : Below w.heap.size w w') : Wk F w0 w' B b at_ st ps v L := h.grown (grown_of_below k) (fun q e => by cases e)
theorem Wk.at0 {F : Fv} {w0 w : World} {B b : Nat} {at_ st ps : Int} {v : Value} {L : List Nat} (h : Wk F w0 w B b at_ st ps v L) : F.At w := h.f.keep h.bw
theorem Wk.cell {F : Fv} {w0 w : World} {B b : Nat} {at_ st ps : Int} {v : Value} {L : List Nat} (h : Wk F w0 w B b at_ st ps v L) (k : Nat) : w.cell? ⟨b, k, none⟩ = (wbox F at_ st ps v)[k]? := by
  unfold World.cell?; rw [h.blk]; rfl
theorem Wk.free {F : Fv} {w0 w : World} {B b : Nat} {at_ st ps : Int} {v : Value} {L : List Nat} (h : Wk F w0 w B b at_ st ps v L) (k : Nat) : w.frozen? ⟨b, k, none⟩ = false := by
  unfold World.frozen?; rw [h.blk]; simp
theorem set_block {w : World} {b : Nat} {c : Array Value} {t : TypeId} (h : w.heap[b]? = some (.cells c t (0, 0))) (k : Nat) (u : Value) : (w.setCell ⟨b, k, none⟩ u).heap[b]? = some (.cells (c.setIfInBounds k u) t (0, 0)) := by
  unfold World.setCell
  simp only [Array.getElem?_modify, h, if_true, Option.map_some, Option.isSome_none, Bool.false_eq_true, if_false]
theorem Wk.put {F : Fv} {w0 w : World} {B b : Nat} {at_ st ps : Int} {v : Value} {L : List Nat} (h : Wk F w0 w B b at_ st ps v L) (k : Nat) (u : Value) {at2 st2 ps2 : Int} {v2 : Value} {L2 : List Nat} (he : (wbox F at_ st ps v).setIfInBounds k u = wbox F at2 st2 ps2 v2) (ho : w.ownsRow B 3 1 v2 L2.length (natC L2)) : Wk F w0 (w.setCell ⟨b, k, none⟩ u) B b at2 st2 ps2 v2 L2 := by
  have hg : w.grownBy (w.setCell ⟨b, k, none⟩ u) (some b) := ⟨rfl, rfl, rfl, by simp [World.setCell], fun q hq hne => Below.heap_setCell _ _ _ _ (by intro e; exact hne (by rw [e]))⟩
  refine ⟨h.f, h.bw.setCell (p := ⟨b, k, none⟩) h.lo u, h.lo, h.hi, Nat.le_trans h.sz hg.size, ?_, ho.kept hg ?_⟩
  · rw [set_block h.blk, he]
  · cases e : v2.ownBlock with
    | none => exact .inl rfl
    | some g =>
      refine .inr (fun q => ?_)
      cases q
      have := (ho.lt b e).1
      have := h.hi
      omega
end Go.Proofs.YtacpcokmgahjaaaDoor
