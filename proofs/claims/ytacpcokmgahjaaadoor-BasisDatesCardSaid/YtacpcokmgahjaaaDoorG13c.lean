/- Contract: the walk's list. -/
import Derived.Test.YtacpcokmgahjaaaDoorG12
import Derived.BigQuiet
import Derived.BigRegion
import Derived.Laws.AppendOwnNone
namespace Go.Proofs.YtacpcokmgahjaaaDoor
set_option linter.unusedVariables false
set_option linter.unusedSimpArgs false
open Go.ChangeShapes Go.WideShapes Go.ChangeAt Go.RowKit
theorem info3 : (Tryd.prog.info? 3).map (fun i => (i.zero, i.size, i.bytes)) = some (some (.int .i64 0), 1, 8) := by kernel_rfl
/-- One number more, behind numbers of the call's own. -/
theorem appI {wr : World} {ops : Array Oper} {rest : List Oper} {o : Oper} {a : Act} {Q : Exit → Act → World → Prop} (hgd : o.guard = none) (s x : Operand)
    (ho : o.op = .call { callee := .builtin .append, args := #[s, x], argTypes := #[112, 112] }) (B : Nat) (v : Value) (l : List Nat) (hs : a.eval s = v) (hown : wr.ownsRow B 3 1 v l.length (natC l)) (y : Nat) (tt : TypeId) (H : Nat) (hH : wr.heap.size = H) (hx : a.eval x = .slice (some ⟨H, 0, none⟩) 1 1) (hn : l.length ≤ 1000000) (hB : B ≤ wr.heap.size)
    (h : ∀ v' w', w'.ownsRow B 3 1 v' (l.length + 1) (natC (l ++ [y])) → (wr.alloc (.cells #[.int .i64 (y : Int)] tt)).grownBy w' v.ownBlock → wpList Tryd.prog ops Q rest (a.put o.dst v') w') : wpList Tryd.prog ops Q (o :: rest) a (wr.alloc (.cells #[.int .i64 (y : Int)] tt)) := by
  subst hH
  obtain ⟨i0, hi, hz0, hz1, hz2⟩ := info_parts info3
  have KA := (Below.refl _ wr).alloc (Nat.le_refl _) (.cells #[.int .i64 (y : Int)] tt)
  have hcell : ∀ (j : Nat) (u : Value), (natC [y])[j]? = some u → (wr.alloc (.cells #[.int .i64 (y : Int)] tt)).cell? ((⟨wr.heap.size, 0, none⟩ : Addr).add j) = some u := by
    intro j u hu
    have hh : (wr.alloc (.cells #[.int .i64 (y : Int)] tt)).heap[wr.heap.size]? = some (.cells #[.int .i64 (y : Int)] tt) := by
      show (wr.heap.push _)[wr.heap.size]? = _
      simp
    rw [add_off, Nat.zero_add]
    unfold World.cell?
    rw [hh]
    simpa [natC] using hu
  refine wpList_append_own_at _ hgd s x 112 ho B 3 i0 (.int .i64 0) 1 8 Tryd.underlying112 hi hz0 hz1 hz2 rfl (by decide) v l.length (natC l) hs (keepB hown KA) ⟨wr.heap.size, 0, none⟩ 1 1 (natC [y]) hx (by simp [natC]) hcell (by intro z hz; simp [natC] at hz; subst hz; rfl) (by unfold maxLen; omega) (by omega) (by simp; omega) ?_
  intro v' w' hown' hgro _ _
  exact h v' w' (by rw [natC_append]; exact hown') hgro
theorem Wk.app {F : Fv} {w0 w w' : World} {B b : Nat} {at_ st ps : Int} {v v2 : Value} {L L2 : List Nat} {o : Obj} (h : Wk F w0 w B b at_ st ps v L) (hg : (w.alloc o).grownBy w' v.ownBlock) (ho : w'.ownsRow B 3 1 v2 L2.length (natC L2)) :
    w'.heap[b]? = some (.cells (wbox F at_ st ps v) 151 (0, 0)) ∧ Wk F w0 (w'.setCell ⟨b, 7, none⟩ v2) B b at_ st ps v2 L2 := by
  have h1 := h.keep ((Below.refl _ w).alloc (Nat.le_refl _) o)
  have hne : ∀ q, v.ownBlock = some q → B ≤ q := fun q e => (h1.own.lt q e).1
  have hb : w'.heap[b]? = some (.cells (wbox F at_ st ps v) 151 (0, 0)) := (hg.block b (Nat.lt_of_lt_of_le h1.hi h1.sz) (fun e => by have := hne b e.symm; have := h.hi; omega)).trans h1.blk
  refine ⟨hb, ?_⟩
  have hB0 : w0.heap.size ≤ B := Nat.le_trans h.lo (Nat.le_of_lt h.hi)
  have hgb : w'.grownBy (w'.setCell ⟨b, 7, none⟩ v2) (some b) := ⟨rfl, rfl, rfl, by simp [World.setCell], fun q hq hne => Below.heap_setCell _ _ _ _ (by intro e; exact hne (by rw [e]))⟩
  refine ⟨h.f, (h1.bw.grown hg (Nat.le_trans hB0 h1.sz) (fun k hk => Nat.le_trans hB0 (hne k hk))).setCell (p := ⟨b, 7, none⟩) h.lo v2, h.lo, h.hi, Nat.le_trans h1.sz (Nat.le_trans hg.size hgb.size), ?_, ho.kept hgb ?_⟩
  · rw [set_block hb]; rfl
  · cases e : v2.ownBlock with
    | none => exact .inl rfl
    | some g =>
      refine .inr (fun q => ?_)
      cases q
      have := (ho.lt b e).1
      have := h.hi
      omega
theorem Wk.base {F : Fv} {w0 w : World} {B B2 b : Nat} {at_ st ps : Int} {v : Value} {L : List Nat} (h : Wk F w0 w B2 b at_ st ps v L) (hb : b < B) (h2 : B ≤ B2) : Wk F w0 w B b at_ st ps v L := ⟨h.f, h.bw, h.lo, hb, Nat.le_trans h2 h.sz, h.blk, own_base h.own h2⟩
theorem grown_put {w w' : World} {b : Nat} (h : w.grownBy w' (some b)) (k : Nat) (u : Value) : w.grownBy ((w'.setCell ⟨b, k, none⟩ u).drew) (some b) := ⟨h.os, h.tape, h.output, by simpa [World.setCell, World.drew] using h.size, fun q hq hne => (Below.heap_setCell _ _ _ _ (by intro e; exact hne (by rw [e]))).trans (h.block q hq hne)⟩
theorem blk_cell {F : Fv} {w : World} {b : Nat} {at_ st ps : Int} {v : Value} (h : w.heap[b]? = some (.cells (wbox F at_ st ps v) 151 (0, 0))) : w.cell? ⟨b, 7, none⟩ = some v ∧ w.frozen? ⟨b, 7, none⟩ = false := by
  constructor
  · unfold World.cell?; rw [h]; rfl
  · unfold World.frozen?; rw [h]; simp
theorem grown_app {w wr w3 : World} {b n : Nat} {o : Obj} {v v3 : Value} {xs : List Value} (hg : w.grownBy wr (some b)) (ho : wr.ownsRow w.heap.size 3 1 v n xs) (h3 : (wr.alloc o).grownBy w3 v.ownBlock) : w.grownBy (w3.setCell ⟨b, 7, none⟩ v3) (some b) := by
  have h1 := (hg.andThen (World.grownBy_alloc wr o none) (fun j e => by cases e)).andThen h3 (fun j e => .inl (ho.lt j e).1)
  exact ⟨h1.os, h1.tape, h1.output, by simpa [World.setCell] using h1.size, fun q hq hne => (Below.heap_setCell _ _ _ _ (by intro e; exact hne (by rw [e]))).trans (h1.block q hq hne)⟩
def Ready (F : Fv) (v : Value) (L : List Nat) : Prop := v = .slice none 0 0 ∨ L = fulls 0 F.cs
/-- What a step leaves. -/
def WkOut (F : Fv) (w0 w : World) (B b : Nat) (a st : Int) (e : Ending) (w' : World) : Prop := ∃ a2 ps2 v2 L2, Wk F w0 w' B b a2 st ps2 v2 L2 ∧ Ready F v2 L2 ∧ NxOut F a st e a2 ∧ 0 ≤ ps2 ∧ ps2 ≤ 2 * F.cn ∧ w.grownBy w' (some b)
end Go.Proofs.YtacpcokmgahjaaaDoor
