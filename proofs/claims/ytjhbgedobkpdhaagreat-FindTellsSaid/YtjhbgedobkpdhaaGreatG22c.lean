/- Contract: near. -/
import Derived.Test.YtjhbgedobkpdhaaGreatG21
namespace Go.Proofs.YtjhbgedobkpdhaaGreat
set_option linter.unusedVariables false
set_option linter.unusedSimpArgs false
open Go.ChangeShapes Go.WideShapes Go.ChangeAt Go.RowKit
/-- What near has in memory. -/
structure Ne (F : Fv) (w0 w : World) (B bw b : Nat) (a st : Int) : Prop where
  wk : ∃ ps v L, Wk F w0 w B bw a st ps v L ∧ Ready F v L ∧ 0 ≤ ps ∧ ps ≤ 2 * F.cn
  box : w.heap[b]? = some (.cells F.box 25 (0, 0))
  f1 : b < B
  f2 : b ≠ bw
theorem Ne.grown {F : Fv} {w0 w w' : World} {B bw b : Nat} {a st a2 : Int} (h : Ne F w0 w B bw b a st) (hg : w.grownBy w' (some bw)) (hk : ∃ ps v L, Wk F w0 w' B bw a2 st ps v L ∧ Ready F v L ∧ 0 ≤ ps ∧ ps ≤ 2 * F.cn) : Ne F w0 w' B bw b a2 st := by
  obtain ⟨ps, v, L, k1, _⟩ := h.wk
  exact ⟨hk, (hg.block b (Nat.lt_of_lt_of_le h.f1 k1.sz) (fun e => h.f2 (by cases e; rfl))).trans h.box, h.f1, h.f2⟩
theorem Ne.keep {F : Fv} {w0 w w' : World} {B bw b : Nat} {a st : Int} (h : Ne F w0 w B bw b a st) (k : Below w.heap.size w w') : Ne F w0 w' B bw b a st := by
  obtain ⟨ps, v, L, k1, k2⟩ := h.wk
  exact h.grown ((grown_of_below k).but _) ⟨ps, v, L, k1.keep k, k2⟩
theorem Ne.boxc {F : Fv} {w0 w : World} {B bw b : Nat} {a st : Int} (h : Ne F w0 w B bw b a st) (k : Nat) : w.cell? ⟨b, k, none⟩ = (F.box)[k]? := by
  unfold World.cell?; rw [h.box]; rfl
theorem Ne.at0 {F : Fv} {w0 w : World} {B bw b : Nat} {a st : Int} (h : Ne F w0 w B bw b a st) : F.At w := by
  obtain ⟨ps, v, L, k1, _⟩ := h.wk
  exact k1.at0
theorem Ne.bw' {F : Fv} {w0 w : World} {B bw b : Nat} {a st : Int} (h : Ne F w0 w B bw b a st) : Below w0.heap.size w0 w := by
  obtain ⟨ps, v, L, k1, _⟩ := h.wk
  exact k1.bw
theorem Ne.next {F : Fv} {w0 w : World} {B bw b : Nat} {a st : Int} (hst : st = 1 ∨ st = -1) (h : Ne F w0 w B bw b a st) (hc : F.cn ≤ 1000000) (ha1 : -2305843009213693952 ≤ a) (ha2 : a ≤ 2305843009213693952) : Calls Tryz.prog 83 #[.pointer (some ⟨bw, 0, none⟩)] w fun e w' => ∃ a2, NxOut F a st e a2 ∧ Hid (Ne F w0 w' B bw b a2 st) := by
  obtain ⟨ps, v, L, k1, k2, k3, k4⟩ := h.wk
  refine (next_any F w0 w B bw a st ps v L hst k1 k2 hc ha1 ha2 k3 k4).mono ?_
  rintro e w' ⟨a2, ps2, v2, L2, q1, q2, q3, q4, q5, q6⟩
  exact ⟨a2, q3, Lib.hid (h.grown q6 ⟨ps2, v2, L2, q1, q2, q4, q5⟩)⟩
/-- What near tells. -/
def NearOut (F : Fv) (i st : Int) (e : Ending) : Prop := ∃ j ok, e = .returned (.tuple #[.int .i64 j, .bool ok]) ∧ Nr F i st j ok
def NearRel (F : Fv) (i st lo hi : Int) (w0 : World) (B bw b : Nat) (nn jj oo : Value) (wr : World) : Prop := ∃ (n j : Int) (ok : Bool), nn = .int .i64 n ∧ jj = .int .i64 j ∧ oo = .bool ok ∧ lo ≤ n ∧ n ≤ hi ∧ Hid (NS F i st n j ok) ∧ Hid (∃ a, (ok = true → a = j) ∧ Ne F w0 wr B bw b a st)
end Go.Proofs.YtjhbgedobkpdhaaGreat
