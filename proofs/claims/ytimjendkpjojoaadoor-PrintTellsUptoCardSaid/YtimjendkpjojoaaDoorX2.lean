/- A builder that is written; numbers as texts. -/
import Derived.Test.YtimjendkpjojoaaDoorX1
import Derived.Test.YtimjendkpjojoaaDoorV4
import Derived.Test.YtimjendkpjojoaaDoorE9
import Derived.Lib.OthersKept
import Derived.Lib.LaidTab
namespace Go.Proofs.YtimjendkpjojoaaDoor
set_option linter.unusedVariables false
set_option linter.unusedSimpArgs false
open Go.ChangeShapes Go.WideShapes Go.ChangeAt Go.RowKit

def opP (i : Nat) : List UInt8 := if i = 0 then [] else Lx.opW.getD (i - 1) []
/-- The tables that printing reads. -/
structure Tp (w : World) : Prop where
  needs : Tabn w
  words : ∀ i, i < 13 → w.cell? ⟨0, i, none⟩ = some (.string ⟨(opP i).toArray⟩)
  pow : Lib.TabIs Tryd.prog w "internal/strconv.uint64pow10" .u64 Lib.pow10Tab
theorem var_keep {w w' : World} {nm : String} {cs : Array Value} (h : w.var? Tryd.prog nm = some cs) (q : Below w.heap.size w w') : w'.var? Tryd.prog nm = some cs := by
  unfold World.var? at *
  cases hg : Tryd.prog.globalNamed nm with
  | none => simp [hg] at h
  | some g =>
    simp only [hg, Option.bind_some] at h ⊢
    have hlt : g < w.heap.size := by
      rcases Nat.lt_or_ge g w.heap.size with h' | h'
      · exact h'
      · rw [Array.getElem?_eq_none h'] at h; simp at h
    rw [q.block g hlt]
    exact h
theorem Tp.keep {w w' : World} (h : Tp w) (q : Below w.heap.size w w') : Tp w' := ⟨h.needs.keep q, fun i hi => cell_keep (h.words i hi) q, var_keep h.pow q⟩
/-- A builder that the call has made, and what it holds. -/
structure PrS (w0 W : World) (b : Nat) (acc : List UInt8) : Prop where
  bw : Below w0.heap.size w0 W
  lo : w0.heap.size ≤ b
  ib : Lib.IsBuilderF 45 5 b b (Lib.byteCells acc) W
theorem PrS.lt {w0 W : World} {b : Nat} {acc : List UInt8} (h : PrS w0 W b acc) : b < W.heap.size := by
  rcases h.ib with ⟨_, v, hb, _⟩ | ⟨_, v, hb, _⟩ <;> exact (Array.getElem?_eq_some_iff.1 hb).1
theorem at_below {p : Value} {b : Nat} {bs : List Value} {W W' : World} (h : Lib.BuilderAtF 45 5 b b p bs W) (q : Below W.heap.size W W') : Lib.BuilderAtF 45 5 b b p bs W' := by
  obtain ⟨h1, v, hv, hown, hne⟩ := h
  exact ⟨h1, v, (q.block b (Array.getElem?_eq_some_iff.1 hv).1).trans hv, hown.kept (row := none) ⟨q.os, q.tape, q.output, q.size, fun k hk _ => q.block k hk⟩ (Classical.em _), hne⟩
theorem PrS.keep {w0 W W' : World} {b : Nat} {acc : List UInt8} (h : PrS w0 W b acc) (q : Below W.heap.size W W') : PrS w0 W' b acc :=
  ⟨h.bw.trans (q.mono h.bw.size), h.lo, h.ib.elim (fun x => .inl (at_below x q)) (fun x => .inr (at_below x q))⟩
theorem ok_below {W W' : World} {r : Option Nat} (q : Below W.heap.size W W') : Lib.OthersKept 5 r W W' := fun k o hk _ _ => (q.block k (Array.getElem?_eq_some_iff.1 hk).1).trans hk
theorem ok_blk {W W' : World} {b k : Nat} {cs : Array Value} {t : TypeId} (h : Lib.OthersKept 5 (some b) W W') (hk : W.heap[k]? = some (.cells cs t (0, 0))) (ht : t ≠ 5) (hb : k ≠ b) : W'.heap[k]? = some (.cells cs t (0, 0)) :=
  h k _ hk (fun e => hb (Option.some.inj e)) (fun c fz e => by injection e with _ e; exact ht e)
/-- WriteString. -/
theorem ws_any (w0 W : World) (b : Nat) (acc : List UInt8) (s : ByteArray) (h : PrS w0 W b acc) (hl : acc.length + s.size ≤ 140737488355328) :
    Calls Tryd.prog 21 #[.pointer (some ⟨b, 0, none⟩), .string s] W fun e w' => e = .returned (.tuple #[.int .i64 s.size, .nilIface]) ∧ Hid (PrS w0 w' b (acc ++ s.data.toList)) ∧ Hid (Lib.OthersKept 5 (some b) W w') := by
  refine (Tryd.Builder_WriteString_k b b (Lib.byteCells acc) s W h.ib (by rw [Lib.byteCells_length]; exact hl) (Nat.le_of_lt h.lt)).mono ?_
  rintro e w' ⟨rfl, h1, h2, h3⟩
  refine ⟨rfl, Lib.hid ⟨h.bw.trans (h2.mono h.lo), h.lo, .inr ?_⟩, Lib.hid h3⟩
  rw [Lib.byteCells_append]; exact h1
theorem fmt_any (n : Int) (h0 : -9223372036854775808 ≤ n) (h1 : n ≤ 9223372036854775807) (w : World) (hT : Tp w) :
    Calls Tryd.prog 23 #[.int .i64 n, .int .i64 10] w fun e w' => e = .returned (.string ⟨(Lib.itoa n).toArray⟩) ∧ Below w.heap.size w w' := by
  refine (Tryd.strconv_FormatInt_10 n h0 h1 w hT.pow).mono ?_
  rintro e w' ⟨rfl, k, os, rfl⟩
  refine ⟨rfl, ?_⟩
  exact ⟨rfl, rfl, rfl, by show w.heap.size ≤ (w.heap ++ os).size; simp, fun j hj => by show (w.heap ++ os)[j]? = _; rw [Array.getElem?_append_left hj]⟩
end Go.Proofs.YtimjendkpjojoaaDoor
