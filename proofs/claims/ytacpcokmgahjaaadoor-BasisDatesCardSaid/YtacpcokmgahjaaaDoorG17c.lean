/- Contract: neighbors. -/
import Derived.Test.YtacpcokmgahjaaaDoorG16
namespace Go.Proofs.YtacpcokmgahjaaaDoor
set_option linter.unusedVariables false
set_option linter.unusedSimpArgs false
open Go.ChangeShapes Go.WideShapes Go.ChangeAt Go.RowKit
theorem Nbs.spot {F : Fv} {w0 w : World} {B b g bF : Nat} {a st : Int} {done : Nat → Prop} (h : Nbs F w0 w B b g bF a st done) (i : Nat) (hi : i < F.on) : ∃ u v, w.cell? ⟨g, i * 2, none⟩ = some u ∧ w.cell? ⟨g, i * 2 + 1, none⟩ = some v ∧ w.frozen? ⟨g, i * 2, none⟩ = false ∧ w.frozen? ⟨g, i * 2 + 1, none⟩ = false := by
  obtain ⟨xs, h1, h2⟩ := h.row
  have hl := h1.1
  refine ⟨xs[i * 2]'(by omega), xs[i * 2 + 1]'(by omega), ?_, ?_, h1.frozenAt _, h1.frozenAt _⟩
  · rw [h1.cellAt _ (by omega)]; exact List.getElem?_eq_getElem _
  · rw [h1.cellAt _ (by omega)]; exact List.getElem?_eq_getElem _
theorem Nbs.got {F : Fv} {w0 w : World} {B b g bF : Nat} {a st : Int} {done : Nat → Prop} (h : Nbs F w0 w B b g bF a st done) (i : Nat) (hd : done i) (hi : i < F.os.length) : ∃ j ok, w.cell? ⟨g, i * 2, none⟩ = some (.int .i64 j) ∧ w.cell? ⟨g, i * 2 + 1, none⟩ = some (.bool ok) ∧ Nr F F.os[i].1 st j ok := by
  obtain ⟨xs, h1, h2⟩ := h.row
  obtain ⟨ps, v, L, k1, _⟩ := h.wk
  have hql : F.os.length = F.on := k1.f.odd.len
  obtain ⟨j, ok, x1, x2, x3⟩ := h2 i hd hi
  refine ⟨j, ok, ?_, ?_, x3⟩
  · rw [h1.cellAt _ (by omega)]; exact x1
  · rw [h1.cellAt _ (by omega)]; exact x2
theorem Nbs.boxc {F : Fv} {w0 w : World} {B b g bF : Nat} {a st : Int} {done : Nat → Prop} (h : Nbs F w0 w B b g bF a st done) (k : Nat) : w.cell? ⟨bF, k, none⟩ = (F.box)[k]? := by
  unfold World.cell?; rw [h.box]; rfl
theorem Nbs.spotW {F : Fv} {w0 w : World} {B b g bF : Nat} {a st : Int} {done : Nat → Prop} (h : Nbs F w0 w B b g bF a st done) : ∃ u, w.cell? ⟨b, 4, none⟩ = some u ∧ w.frozen? ⟨b, 4, none⟩ = false := by
  obtain ⟨ps, v, L, k1, _⟩ := h.wk
  exact ⟨_, k1.cell 4, k1.free 4⟩
theorem Nbs.at0 {F : Fv} {w0 w : World} {B b g bF : Nat} {a st : Int} {done : Nat → Prop} (h : Nbs F w0 w B b g bF a st done) : F.At w := by
  obtain ⟨ps, v, L, k1, _⟩ := h.wk
  exact k1.at0
theorem grown_two (w : World) (g k : Nat) (u v : Value) : w.grownBy ((w.setCell ⟨g, k, none⟩ u).setCell ⟨g, k + 1, none⟩ v) (some g) := grown_put0 (grown_put0 (World.grownBy.refl w _) k u) (k + 1) v
theorem Nbs.next {F : Fv} {w0 w : World} {B b g bF : Nat} {a st : Int} {done : Nat → Prop} (hst : st = 1 ∨ st = -1) (h : Nbs F w0 w B b g bF a st done) (hc : F.cn ≤ 1000000) (ha1 : -2305843009213693952 ≤ a) (ha2 : a ≤ 2305843009213693952) : Calls Tryd.prog 89 #[.pointer (some ⟨b, 0, none⟩)] w fun e w' => ∃ a2, NxOut F a st e a2 ∧ Hid (Nbs F w0 w' B b g bF a2 st done) := by
  obtain ⟨ps, v, L, k1, k2, k3, k4⟩ := h.wk
  refine (next_any F w0 w B b a st ps v L hst k1 k2 hc ha1 ha2 k3 k4).mono ?_
  rintro e w' ⟨a2, ps2, v2, L2, q1, q2, q3, q4, q5, q6⟩
  exact ⟨a2, q3, Lib.hid (h.grown q6 ⟨ps2, v2, L2, q1, q2, q4, q5⟩)⟩
end Go.Proofs.YtacpcokmgahjaaaDoor
