/- Contracts: Do over a calendar, (*store).form. -/
import Derived.Test.YtacpcokmgahjaaaDoorB5
namespace Go.Proofs.YtacpcokmgahjaaaDoor
set_option linter.unusedVariables false
set_option linter.unusedSimpArgs false
open Go.ChangeShapes Go.WideShapes Go.ChangeAt Go.RowKit
/-- All but two blocks is as it was. -/
structure But2 (k g : Nat) (w w' : World) : Prop where
  os : w'.os = w.os
  tape : w'.tape = w.tape
  output : w'.output = w.output
  size : w.heap.size ≤ w'.heap.size
  old : ∀ q, q < w.heap.size → q ≠ k → q ≠ g → w'.heap[q]? = w.heap[q]?
theorem But2.below {k g B : Nat} {w w' : World} (h : But2 k g w w') (h1 : B ≤ k) (h2 : B ≤ g) (h3 : B ≤ w.heap.size) : Below B w w' := ⟨h.os, h.tape, h.output, h.size, fun q hq => h.old q (by omega) (by omega) (by omega)⟩
theorem cell_but {k g : Nat} {w w' : World} {a : Addr} {v : Value} (h : w.cell? a = some v) (q : But2 k g w w') (h1 : a.block ≠ k) (h2 : a.block ≠ g) : w'.cell? a = some v := by
  rw [← h]; unfold World.cell?; rw [q.old a.block (cell_here h) h1 h2]
/-- One more, if it was not made. -/
def cntB (st : Nat → Bool) (i : Nat) (n : Int) : Int := if st i = true then n else n + 1
/-- Cells of the calendar, of what was made before, and of what was made since lie as they lay. -/
def Same5 (m c k g m2 : Nat) (w W : World) : Prop := w.heap.size ≤ W.heap.size ∧ ∀ q, q < w.heap.size → (q < m ∨ m2 ≤ q ∨ q = c ∨ q = k ∨ q = g) → W.heap[q]? = w.heap[q]?
def upd (st : Nat → Bool) (i : Nat) : Nat → Bool := fun j => st j || decide (j = i)
theorem upd_same {st : Nat → Bool} {i : Nat} (h : st i = true) : upd st i = st := by
  funext j
  unfold upd
  by_cases z : j = i
  · subst z; simp [h]
  · simp [z]
theorem once_in {w wm : World} {k g i : Nat} {cur : Array Value} {n : Int} (hl : Laid5 w k g i cur n wm) (hi : i < 6) (hs : cur.size = 42) (h0 : cur[i * 7]? = some (.int .u32 0)) (h1 : cur[i * 7 + 1]? = some (.int .i32 1)) : OnceIn g (i * 7) wm := by
  obtain ⟨h, hg, _⟩ := hl.gb
  refine ⟨?_, blk_free hg _, ?_, blk_free hg _⟩
  · rw [cell_blk hg]
    simp only [Array.getElem?_setIfInBounds]
    rw [if_neg (by omega), if_neg (by omega), if_neg (by omega), if_neg (by omega)]
    exact h0
  · rw [cell_blk hg]
    simp only [Array.getElem?_setIfInBounds]
    rw [if_neg (by omega), if_neg (by omega), if_neg (by omega), if_neg (by omega)]
    exact h1
theorem set_at {c : Array Value} {i j : Nat} {v : Value} (h : i < c.size) : (c.setIfInBounds i v)[j]? = if i = j then some v else c[j]? := by
  rw [Array.getElem?_setIfInBounds]
  simp [h]
theorem cd_made {w wL wm : World} {m c k g i : Nat} {st : Nat → Bool} {n : Int} {cur : Array Value} (hC : Cd w m c k g st n) (hi : i < 6) (hst : st i = false) (hcur : w.heap[g]? = some (.cells cur 103 (0, 0))) (hs : cur.size = 42) (hL : wL = w.setCell ⟨g, i * 7 + 1, none⟩ (.int .i32 1)) (hl : Laid5 wL k g i (cur.setIfInBounds (i * 7 + 1) (.int .i32 1)) n wm) :
    (∀ W, Same5 m c k g w.heap.size ((wm.drew.setCell ⟨g, i * 7, none⟩ (.int .u32 1)).setCell ⟨g, i * 7 + 1, none⟩ (.int .i32 0)) W → Cd W wm.heap.size c k g (upd st i) (n + 1)) ∧ But2 k g w ((wm.drew.setCell ⟨g, i * 7, none⟩ (.int .u32 1)).setCell ⟨g, i * 7 + 1, none⟩ (.int .i32 0)) := by
  have lc := (Array.getElem?_eq_some_iff.1 hC.cb).1
  have lk := (Array.getElem?_eq_some_iff.1 hC.kb).1
  have lg := (Array.getElem?_eq_some_iff.1 hcur).1
  have nck : c ≠ k := fun z => by have := hC.cb; rw [z, hC.kb] at this; simp at this
  have ncg : c ≠ g := fun z => by have := hC.cb; rw [z, hcur] at this; simp at this
  have nkg : k ≠ g := fun z => by have := hC.kb; rw [z, hcur] at this; simp at this
  have sL : wL.heap.size = w.heap.size := by rw [hL]; simp [World.setCell]
  have bL : ∀ q, q ≠ g → wL.heap[q]? = w.heap[q]? := fun q hq => by rw [hL]; exact Below.heap_setCell _ _ _ _ hq
  have sm := hl.sz
  obtain ⟨h, hg, hco⟩ := hl.gb
  have hg1 := set_block (show wm.drew.heap[g]? = _ from hg) (i * 7) (.int .u32 1)
  have hg2 := set_block hg1 (i * 7 + 1) (.int .i32 0)
  generalize hw : (wm.drew.setCell ⟨g, i * 7, none⟩ (.int .u32 1)).setCell ⟨g, i * 7 + 1, none⟩ (.int .i32 0) = w2 at hg2 ⊢
  have s2 : w2.heap.size = wm.heap.size := by
    have k1 : (wm.drew.setCell ⟨g, i * 7, none⟩ (.int .u32 1)).heap.size = wm.drew.heap.size := by simp [World.setCell]
    have k2 : ((wm.drew.setCell ⟨g, i * 7, none⟩ (.int .u32 1)).setCell ⟨g, i * 7 + 1, none⟩ (.int .i32 0)).heap.size = (wm.drew.setCell ⟨g, i * 7, none⟩ (.int .u32 1)).heap.size := by simp [World.setCell]
    rw [← hw, k2, k1]; rfl
  have b2 : ∀ q, q ≠ g → w2.heap[q]? = wm.heap[q]? := fun q hq => by rw [← hw, Below.heap_setCell _ _ _ _ hq, Below.heap_setCell _ _ _ _ hq]; rfl
  have all : ∀ q, q < w.heap.size → q ≠ k → q ≠ g → w2.heap[q]? = w.heap[q]? := fun q h1 h2 h3 => (b2 q h3).trans ((hl.old q (by omega) h2 h3).trans (bL q h3))
  have e1 : w2.os = w.os := by rw [← hw]; exact hl.os.trans (by rw [hL]; rfl)
  have e2 : w2.tape = w.tape := by rw [← hw]; exact hl.tape.trans (by rw [hL]; rfl)
  have e3 : w2.output = w.output := by rw [← hw]; exact hl.output.trans (by rw [hL]; rfl)
  have hmb := hC.mb
  refine ⟨fun W hW => ⟨by have := hW.1; omega, (hW.2 c (by omega) (.inr (.inr (.inl rfl)))).trans ((all c lc nck ncg).trans hC.cb), (hW.2 k (by omega) (.inr (.inr (.inr (.inl rfl))))).trans ((b2 k nkg).trans hl.kb), _, (hW.2 g (by omega) (.inr (.inr (.inr (.inr rfl))))).trans hg2, by simp [hs], fun j hj => ?_⟩, ⟨e1, e2, e3, by omega, all⟩⟩
  obtain ⟨cur', a, b, d⟩ := hC.gb
  obtain rfl : cur' = cur := by rw [hcur] at a; cases a; rfl
  by_cases z : j = i
  · subst z
    refine ⟨fun _ => ⟨h, w.heap.size, wm.heap.size, lc, lk, lg, Nat.le_refl _, ?_, ?_, ?_, ?_, ?_, fun W' hW' => hco W' (fun q q1 q2 => ?_)⟩, fun hb => ?_⟩
    · rw [set_at (by simp; omega), if_neg (by omega), set_at (by simp; omega), if_pos rfl]
    · rw [set_at (by simp; omega), if_neg (by omega), set_at (by simp; omega), if_neg (by omega), set_at (by simp; omega), if_neg (by omega), set_at (by simp; omega), if_neg (by omega), set_at (by simp; omega), if_neg (by omega), set_at (by simp; omega), if_pos rfl]
    · rw [set_at (by simp; omega), if_neg (by omega), set_at (by simp; omega), if_neg (by omega), set_at (by simp; omega), if_neg (by omega), set_at (by simp; omega), if_neg (by omega), set_at (by simp; omega), if_pos rfl]
    · rw [set_at (by simp; omega), if_neg (by omega), set_at (by simp; omega), if_neg (by omega), set_at (by simp; omega), if_neg (by omega), set_at (by simp; omega), if_pos rfl]
    · rw [set_at (by simp; omega), if_neg (by omega), set_at (by simp; omega), if_neg (by omega), set_at (by simp; omega), if_pos rfl]
    · exact (hW' q (by omega) (by omega)).trans ((hW.2 q (by omega) (.inr (.inl (by omega)))).trans (b2 q (by omega)))
    · unfold upd at hb; simp at hb
  · have hu : upd st i j = st j := by unfold upd; simp [z]
    rw [hu]
    refine (d j hj).move (by omega) (fun q q1 q2 q3 q4 => (hW.2 q (by omega) (.inl q4)).trans (all q (by omega) (by omega) (by omega))) (fun t ht => ?_)
    rw [set_at (by simp; omega), if_neg (by omega), set_at (by simp; omega), if_neg (by omega), set_at (by simp; omega), if_neg (by omega), set_at (by simp; omega), if_neg (by omega), set_at (by simp; omega), if_neg (by omega), set_at (by simp; omega), if_neg (by omega), set_at (by omega), if_neg (by omega)]
/-- The form of a cell lies there, whatever is written into one block of the caller's. -/
def CellTold (m m2 : Nat) (w : World) (g i : Nat) : Prop := ∃ h cur, w.heap[g]? = some (.cells cur 103 (0, 0)) ∧ cur.size = 42 ∧ cur[i * 7 + 3]? = some (.int .i64 (bP i)) ∧ cur[i * 7 + 4]? = some (.int .i64 (bN i : Int)) ∧ cur[i * 7 + 5]? = some (.slice (some ⟨h, 0, none⟩) (bN i) (bN i)) ∧ cur[i * 7 + 6]? = some (.slice none 0 0) ∧ ∀ W : World, (∀ q, q < w.heap.size → q < m ∨ m2 ≤ q → W.heap[q]? = w.heap[q]?) → CoAt W (some ⟨h, 0, none⟩) (bN i) (bN i) (bC i)
theorem do_cd (i : Nat) (hi : i < 6) (w : World) (m c k g ib ab sb : Nat) (st : Nat → Bool) (n : Int) (n0 : 0 ≤ n) (n1 : n ≤ 1000) (hT : Tab w) (hC : Cd w m c k g st n) (h0 : 0 < g) (hib : w.cell? ⟨ib, 0, none⟩ = some (.int .i64 (i : Int))) (hab : w.cell? ⟨ab, 0, none⟩ = some (.pointer (some ⟨g, i * 7, none⟩))) (hsb : w.cell? ⟨sb, 0, none⟩ = some (.pointer (some ⟨k, 0, none⟩))) (q1 : ib ≠ g) (q2 : ab ≠ g) (q3 : sb ≠ g) :
    Calls Tryd.prog 44 #[.pointer (some ⟨g, i * 7, none⟩), .func (.func 45) #[] #[.pointer (some ⟨ib, 0, none⟩), .pointer (some ⟨ab, 0, none⟩), .pointer (some ⟨sb, 0, none⟩)]] w fun e w' => e = .returned (.tuple #[]) ∧ Hid (∀ W, Same5 m c k g w.heap.size w' W → ∃ m2, Cd W m2 c k g (upd st i) (cntB st i n)) ∧ Hid (CellTold m w.heap.size w' g i) ∧ Hid (But2 k g w w') := by
  obtain ⟨cur, a, b, d⟩ := hC.gb
  cases hs : st i with
  | true =>
    obtain ⟨h', B, e, b1, b2, b3, he, x0, x3, x4, x5, x6, hco⟩ := (d i hi).1 hs
    have hmb := hC.mb
    refine (do_done ⟨g, i * 7, none⟩ 1 (by decide) _ w (by rw [cell_blk a]; exact x0)).mono ?_
    rintro e w' ⟨rfl, rfl⟩
    refine ⟨rfl, Lib.hid (fun W hW => ⟨m, ?_⟩), Lib.hid ⟨h', cur, a, b, x3, x4, x5, x6, fun W hW => hco W (fun q q1 q2 => hW q (by omega) (.inl (by omega)))⟩, Lib.hid ⟨rfl, rfl, rfl, Nat.le_refl _, fun _ _ _ _ => rfl⟩⟩
    have lc := (Array.getElem?_eq_some_iff.1 hC.cb).1
    have lk := (Array.getElem?_eq_some_iff.1 hC.kb).1
    have lg := (Array.getElem?_eq_some_iff.1 a).1
    have hn : cntB st i n = n := by unfold cntB; rw [if_pos hs]
    rw [upd_same hs, hn]
    exact ⟨Nat.le_trans hmb hW.1, (hW.2 c lc (.inr (.inr (.inl rfl)))).trans hC.cb, (hW.2 k lk (.inr (.inr (.inr (.inl rfl))))).trans hC.kb, cur, (hW.2 g lg (.inr (.inr (.inr (.inr rfl))))).trans a, b, fun j hj => (d j hj).move (Nat.le_refl _) (fun q _ _ _ q4 => hW.2 q (by omega) (.inl q4)) (fun _ _ => rfl)⟩
  | false =>
    have hx := (d i hi).2 hs
    have nkg : k ≠ g := fun z => by have := hC.kb; rw [z, a] at this; simp at this
    have hgl := set_block a (i * 7 + 1) (.int .i32 1)
    have ho : ∀ {p : Addr} {v : Value}, w.cell? p = some v → p.block ≠ g → (w.setCell ⟨g, i * 7 + 1, none⟩ (.int .i32 1)).cell? p = some v := fun h hn => cell_off h (grow_cell w ⟨g, i * 7 + 1, none⟩ (.int .i32 1)) hn
    have hc := clos_any i hi (w.setCell ⟨g, i * 7 + 1, none⟩ (.int .i32 1)) k g ib ab sb _ n n0 n1 (fun j hj => ho (hT j hj) (by show 0 ≠ g; omega)) (ho hib q1) (ho hab q2) (ho hsb q3) hgl (by simp [b]) ((Below.heap_setCell _ _ _ _ nkg).trans hC.kb) q3
    refine (do_first g (i * 7) _ (fun wm => Laid5 (w.setCell ⟨g, i * 7 + 1, none⟩ (.int .i32 1)) k g i (cur.setIfInBounds (i * 7 + 1) (.int .i32 1)) n wm) w (by rw [cell_blk a]; exact hx.1) (by rw [cell_blk a]; exact hx.2) (blk_free a _) (blk_free a _) (hc.mono ?_)).mono ?_
    · rintro e w' ⟨rfl, hl⟩
      refine ⟨rfl, Lib.hid (once_in hl.out hi (by simp [b]) ?_ ?_), hl⟩
      · rw [set_at (by omega), if_neg (by omega)]; exact hx.1
      · rw [set_at (by omega), if_pos rfl]
    · rintro e w' ⟨rfl, wm, _, hl, rfl⟩
      have := cd_made hC hi hs a b rfl hl.out
      refine ⟨rfl, Lib.hid (fun W hW => ⟨_, by rw [show cntB st i n = n + 1 by unfold cntB; rw [if_neg (by rw [hs]; decide)]]; exact this.1 W hW⟩), Lib.hid ?_, Lib.hid this.2⟩
      obtain ⟨h, hg, hco⟩ := hl.out.gb
      have hg1 := set_block (show wm.drew.heap[g]? = _ from hg) (i * 7) (.int .u32 1)
      have hg2 := set_block hg1 (i * 7 + 1) (.int .i32 0)
      have lg := (Array.getElem?_eq_some_iff.1 a).1
      have sz := hl.out.sz
      have sL : (w.setCell ⟨g, i * 7 + 1, none⟩ (.int .i32 1)).heap.size = w.heap.size := by simp [World.setCell]
      refine ⟨h, _, hg2, by simp [b], ?_, ?_, ?_, ?_, fun W hW => hco W (fun q q1 q2 => ?_)⟩
      · rw [set_at (by simp; omega), if_neg (by omega), set_at (by simp; omega), if_neg (by omega), set_at (by simp; omega), if_neg (by omega), set_at (by simp; omega), if_neg (by omega), set_at (by simp; omega), if_neg (by omega), set_at (by simp; omega), if_pos rfl]
      · rw [set_at (by simp; omega), if_neg (by omega), set_at (by simp; omega), if_neg (by omega), set_at (by simp; omega), if_neg (by omega), set_at (by simp; omega), if_neg (by omega), set_at (by simp; omega), if_pos rfl]
      · rw [set_at (by simp; omega), if_neg (by omega), set_at (by simp; omega), if_neg (by omega), set_at (by simp; omega), if_neg (by omega), set_at (by simp; omega), if_pos rfl]
      · rw [set_at (by simp; omega), if_neg (by omega), set_at (by simp; omega), if_neg (by omega), set_at (by simp; omega), if_pos rfl]
      · have k1 : (wm.drew.setCell ⟨g, i * 7, none⟩ (.int .u32 1)).heap.size = wm.drew.heap.size := by simp [World.setCell]
        have k2 : ((wm.drew.setCell ⟨g, i * 7, none⟩ (.int .u32 1)).setCell ⟨g, i * 7 + 1, none⟩ (.int .i32 0)).heap.size = (wm.drew.setCell ⟨g, i * 7, none⟩ (.int .u32 1)).heap.size := by simp [World.setCell]
        have k3 : wm.drew.heap.size = wm.heap.size := rfl
        refine (hW q (by omega) (.inr (by omega))).trans ?_
        rw [Below.heap_setCell _ _ _ _ (by show q ≠ g; omega), Below.heap_setCell _ _ _ _ (by show q ≠ g; omega)]; rfl
end Go.Proofs.YtacpcokmgahjaaaDoor
