/- E1 in one. -/
import Derived.Test.YtimjendkpjojoaaGreatDoorRows
import Derived.BigQuiet
import Derived.BigRegion
import Derived.Deep.AppendLies
import Derived.Deep.DeepCutAuto
import Derived.Deep.DeepFit
import Derived.Deep.MidRow
import Derived.Deep.QuietTactic
import Derived.Deep.RegionHeld3
import Derived.Deep.RegionLaw
import Derived.Handy
import Derived.IntWalk
import Derived.Laws.AppendOwn
import Derived.Laws.Bits64b
import Derived.Laws.CopyOwn
import Derived.Laws.OwnMore
import Derived.Lib.Hide
import Derived.Lib.Mul64
import Derived.Maps.AppendAt
import Derived.OpenShut
import Derived.Outline
import Derived.OwnWalk
import Derived.ProofKit
import Derived.ScopeJumps
import Derived.StillTailTactics
import Derived.WalkKit
import Derived.WalkMore
import Derived.WalkSpells
import Derived.Tactics
import Derived.Tactics2
import Derived.Laws.Pointers
import Derived.RegionTactic
import Derived.RegionCalls
import Derived.Laws.NewBlocks
import Derived.Laws.EntriesVeiled
import Derived.Below
namespace Go.Proofs.YtimjendkpjojoaaGreatDoor
set_option linter.unusedVariables false
set_option linter.unusedSimpArgs false
open Go.ChangeShapes Go.WideShapes Go.ChangeAt Go.RowKit
theorem cell_here {w : World} {a : Addr} {v : Value} (h : w.cell? a = some v) : a.block < w.heap.size := by
  rcases Nat.lt_or_ge a.block w.heap.size with h' | h'
  · exact h'
  · unfold World.cell? at h
    rw [Array.getElem?_eq_none h'] at h; simp at h
theorem cell_keep {w w' : World} {a : Addr} {v : Value} (h : w.cell? a = some v) (b : Below w.heap.size w w') : w'.cell? a = some v := by
  rw [← h]
  unfold World.cell?
  rw [b.block a.block (cell_here h)]
theorem cell_blk {w : World} {b : Nat} {c : Array Value} {t : TypeId} (h : w.heap[b]? = some (.cells c t (0, 0))) (k : Nat) : w.cell? ⟨b, k, none⟩ = c[k]? := by
  unfold World.cell?; rw [h]; rfl
theorem blk_free {w : World} {b : Nat} {c : Array Value} {t : TypeId} (h : w.heap[b]? = some (.cells c t (0, 0))) (k : Nat) : w.frozen? ⟨b, k, none⟩ = false := by
  unfold World.frozen?; rw [h]; simp
theorem set_block {w : World} {b : Nat} {c : Array Value} {t : TypeId} (h : w.heap[b]? = some (.cells c t (0, 0))) (k : Nat) (u : Value) : (w.setCell ⟨b, k, none⟩ u).heap[b]? = some (.cells (c.setIfInBounds k u) t (0, 0)) := by
  unfold World.setCell
  simp only [Array.getElem?_modify, h, if_true, Option.map_some, Option.isSome_none, Bool.false_eq_true, if_false]
theorem al_new (w : World) (o : Obj) : (w.alloc o).heap[w.heap.size]? = some o := by
  show (w.heap.push o)[w.heap.size]? = _
  simp
theorem al_old (w : World) (o : Obj) {r : Nat} (h : r < w.heap.size) : (w.alloc o).heap[r]? = w.heap[r]? := Below.heap_alloc w o r h
theorem grow_cell (w : World) (p : Addr) (u : Value) : w.grownBy (w.setCell p u) (some p.block) := ⟨rfl, rfl, rfl, by simp [World.setCell], fun q hq hne => Below.heap_setCell _ _ _ _ (by intro e; exact hne (by rw [e]))⟩
/-- A part of an expression. -/
structure Pt where
  op : Int
  nm : ByteArray
  nums : List Int
  k : Nat
/-- A list of numbers in memory. -/
structure NAt (w : World) (ao : Option Addr) (n c : Nat) (l : List Int) : Prop where
  len : l.length = n
  le : n ≤ c
  top : c ≤ 9223372036854775807
  bare : ao = none → n = 0 ∧ c = 0
  here : 0 < n → ∃ b p, ao = some ⟨b, p, none⟩ ∧ ∀ i (h : i < l.length), w.cell? ⟨b, p + i, none⟩ = some (.int .i64 l[i]) ∧ -9223372036854775808 ≤ l[i] ∧ l[i] ≤ 9223372036854775807
theorem NAt.keep {w w' : World} {ao : Option Addr} {n c : Nat} {l : List Int} (h : NAt w ao n c l) (k : Below w.heap.size w w') : NAt w' ao n c l :=
  ⟨h.len, h.le, h.top, h.bare, fun h0 => by
    obtain ⟨b, p, e, hc⟩ := h.here h0
    exact ⟨b, p, e, fun i hi => ⟨cell_keep (hc i hi).1 k, (hc i hi).2⟩⟩⟩
/-- The head of a part: its operator, its name, its numbers, how many arguments. -/
structure HdAt (w : World) (p : Pt) (an : Option Addr) (nn nc : Nat) (aa : Option Addr) (ac : Nat) : Prop where
  o1 : 0 ≤ p.op
  o2 : p.op ≤ 255
  nmle : p.nm.size ≤ maxLen
  nums : NAt w an nn nc p.nums
  le : p.k ≤ ac
  top : ac ≤ 9223372036854775807
  bare : aa = none → p.k = 0 ∧ ac = 0
theorem HdAt.keep {w w' : World} {p : Pt} {an aa : Option Addr} {nn nc ac : Nat} (h : HdAt w p an nn nc aa ac) (k : Below w.heap.size w w') : HdAt w' p an nn nc aa ac := ⟨h.o1, h.o2, h.nmle, h.nums.keep k, h.le, h.top, h.bare⟩
/-- The value of a part. -/
def pv (p : Pt) (an : Option Addr) (nn nc : Nat) (aa : Option Addr) (ac : Nat) : Value := .agg #[.int .u8 p.op, .string p.nm, .slice an nn nc, .slice aa p.k ac]
abbrev Tour := Int → List (Pt × Int)
/-- The parts of some expressions, one after another. -/
def flat (Fs : List Tour) (d : Int) : List (Pt × Int) := (Fs.map (fun F => F d)).flatten
theorem flat_snoc (Fs : List Tour) (F : Tour) (d : Int) : flat (Fs ++ [F]) d = flat Fs d ++ F d := by simp [flat]
theorem flat_app (A B : List Tour) (d : Int) : flat (A ++ B) d = flat A d ++ flat B d := by simp [flat]
/-- An expression in memory, of a depth of at most n: its parts, with their depths. -/
def ExAt (w : World) : Nat → Value → Tour → Prop
  | 0, _, _ => False
  | n + 1, v, F => ∃ (p : Pt) (an : Option Addr) (nn nc : Nat) (aa : Option Addr) (ac : Nat) (Fs : List Tour), v = pv p an nn nc aa ac ∧ HdAt w p an nn nc aa ac ∧ Fs.length = p.k ∧ F = (fun d => (p, d) :: flat Fs (d + 1)) ∧
      (0 < p.k → ∃ b q, aa = some ⟨b, q, none⟩ ∧ ∀ i (h : i < Fs.length), ∃ x0 x1 x2 x3, w.cell? ⟨b, q + i * 4, none⟩ = some x0 ∧ w.cell? ⟨b, q + i * 4 + 1, none⟩ = some x1 ∧ w.cell? ⟨b, q + i * 4 + 2, none⟩ = some x2 ∧ w.cell? ⟨b, q + i * 4 + 3, none⟩ = some x3 ∧ ExAt w n (.agg #[x0, x1, x2, x3]) Fs[i])
theorem ExAt.keep {w w' : World} (k : Below w.heap.size w w') : ∀ {n : Nat} {v : Value} {F : Tour}, ExAt w n v F → ExAt w' n v F
  | 0, _, _, h => h
  | n + 1, v, F, h => by
    obtain ⟨p, an, nn, nc, aa, ac, Fs, e1, hh, e2, e3, hc⟩ := h
    refine ⟨p, an, nn, nc, aa, ac, Fs, e1, hh.keep k, e2, e3, fun h0 => ?_⟩
    obtain ⟨b, q, e, hx⟩ := hc h0
    refine ⟨b, q, e, fun i hi => ?_⟩
    obtain ⟨x0, x1, x2, x3, c0, c1, c2, c3, hr⟩ := hx i hi
    exact ⟨x0, x1, x2, x3, cell_keep c0 k, cell_keep c1 k, cell_keep c2 k, cell_keep c3 k, hr.keep k⟩
theorem ExAt.more {w : World} : ∀ {n m : Nat} {v : Value} {F : Tour}, n ≤ m → ExAt w n v F → ExAt w m v F
  | 0, _, _, _, _, h => h.elim
  | n + 1, 0, _, _, q, _ => absurd q (Nat.not_succ_le_zero _)
  | n + 1, m + 1, v, F, q, h => by
    obtain ⟨p, an, nn, nc, aa, ac, Fs, e1, hh, e2, e3, hc⟩ := h
    refine ⟨p, an, nn, nc, aa, ac, Fs, e1, hh, e2, e3, fun h0 => ?_⟩
    obtain ⟨b, r, e, hx⟩ := hc h0
    refine ⟨b, r, e, fun i hi => ?_⟩
    obtain ⟨x0, x1, x2, x3, c0, c1, c2, c3, hr⟩ := hx i hi
    exact ⟨x0, x1, x2, x3, c0, c1, c2, c3, hr.more (Nat.le_of_succ_le_succ q)⟩
theorem ExAt.shape {w : World} {n : Nat} {v : Value} {F : Tour} (h : ExAt w n v F) : ∃ x0 x1 x2 x3, v = .agg #[x0, x1, x2, x3] := by
  match n, h with
  | n + 1, h =>
    obtain ⟨p, an, nn, nc, aa, ac, Fs, rfl, _⟩ := h
    exact ⟨_, _, _, _, rfl⟩
theorem ExAt.head {w : World} {n : Nat} {v : Value} {F : Tour} (h : ExAt w n v F) : ∃ (p : Pt) (an : Option Addr) (nn nc : Nat) (aa : Option Addr) (ac : Nat), v = .agg #[.int .u8 p.op, .string p.nm, .slice an nn nc, .slice aa p.k ac] ∧ HdAt w p an nn nc aa ac := by
  match n, h with
  | n + 1, h =>
    obtain ⟨p, an, nn, nc, aa, ac, Fs, rfl, hh, _⟩ := h
    exact ⟨p, an, nn, nc, aa, ac, rfl, hh⟩
/-- Going through parts, as long as they are wanted. -/
def run {σ : Type} (step : σ → Pt → Int → σ × Bool) : σ → List (Pt × Int) → σ × Bool
  | s, [] => (s, true)
  | s, x :: r => if (step s x.1 x.2).2 = true then run step (step s x.1 x.2).1 r else ((step s x.1 x.2).1, false)
theorem run_t {σ : Type} {step : σ → Pt → Int → σ × Bool} {s : σ} {x : Pt × Int} {r : List (Pt × Int)} (h : (step s x.1 x.2).2 = true) : run step s (x :: r) = run step (step s x.1 x.2).1 r := by
  simp only [run, h, if_true]
theorem run_f {σ : Type} {step : σ → Pt → Int → σ × Bool} {s : σ} {x : Pt × Int} {r : List (Pt × Int)} (h : (step s x.1 x.2).2 = false) : run step s (x :: r) = ((step s x.1 x.2).1, false) := by
  simp only [run, h, Bool.false_eq_true, if_false]
theorem run_on {σ : Type} {step : σ → Pt → Int → σ × Bool} : ∀ {a b : List (Pt × Int)} {s : σ}, (run step s a).2 = true → run step s (a ++ b) = run step (run step s a).1 b
  | [], b, s, _ => rfl
  | x :: r, b, s, h => by
    cases e : (step s x.1 x.2).2
    · rw [run_f e] at h; cases h
    · rw [run_t e] at h
      rw [List.cons_append, run_t e, run_t e]
      exact run_on h
theorem run_off {σ : Type} {step : σ → Pt → Int → σ × Bool} : ∀ {a b : List (Pt × Int)} {s : σ}, (run step s a).2 = false → run step s (a ++ b) = run step s a
  | [], b, s, h => by cases h
  | x :: r, b, s, h => by
    cases e : (step s x.1 x.2).2
    · rw [List.cons_append, run_f e, run_f e]
    · rw [run_t e] at h
      rw [List.cons_append, run_t e, run_t e]
      exact run_off h
theorem run_m {σ : Type} {step : σ → Pt → Int → σ × Bool} {m : σ → Nat} (hm : ∀ s p d, m (step s p d).1 ≤ m s + 1) : ∀ (l : List (Pt × Int)) (s : σ), m (run step s l).1 ≤ m s + l.length
  | [], s => by simp [run]
  | x :: r, s => by
    cases e : (step s x.1 x.2).2
    · rw [run_f e]; have := hm s x.1 x.2; simp; omega
    · rw [run_t e]; have := hm s x.1 x.2; have := run_m hm r (step s x.1 x.2).1; simp; omega
/-- Cells of the kinds that hold expressions and functions lie as they lay. -/
structure Kp (w w' : World) : Prop where
  size : w.heap.size ≤ w'.heap.size
  blk : ∀ (q : Nat) (c : Array Value) (t : TypeId), t = 25 ∨ t = 50 → w.heap[q]? = some (Obj.cells c t (0, 0)) → w'.heap[q]? = some (Obj.cells c t (0, 0))
theorem Kp.refl (w : World) : Kp w w := ⟨Nat.le_refl _, fun _ _ _ _ h => h⟩
theorem Kp.trans {a b c : World} (h : Kp a b) (q : Kp b c) : Kp a c := ⟨Nat.le_trans h.size q.size, fun r x t ht e => q.blk r x t ht (h.blk r x t ht e)⟩
theorem Kp.of_below {w w' : World} (h : Below w.heap.size w w') : Kp w w' := ⟨h.size, fun q c t _ e => (h.block q (Array.getElem?_eq_some_iff.1 e).1).trans e⟩
theorem Kp.set {w : World} {b : Nat} {c : Array Value} {t : TypeId} (h : w.heap[b]? = some (.cells c t (0, 0))) (h1 : t ≠ 25) (h2 : t ≠ 50) (k : Nat) (u : Value) : Kp w (w.setCell ⟨b, k, none⟩ u) :=
  ⟨by simp [World.setCell], fun q x s hs e => by
    by_cases z : q = b
    · subst z
      rw [h] at e
      cases e
      rcases hs with rfl | rfl
      · exact absurd rfl h1
      · exact absurd rfl h2
    · exact (Below.heap_setCell _ _ _ _ (by intro e; exact z e)).trans e⟩
end Go.Proofs.YtimjendkpjojoaaGreatDoor
