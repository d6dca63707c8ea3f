/- A tree in memory and its kids. -/
import Derived.Test.YtimjendkpjojoaaDoorQ8
namespace Go.Proofs.YtimjendkpjojoaaDoor
set_option linter.unusedVariables false
set_option linter.unusedSimpArgs false
open Go.ChangeShapes Go.WideShapes Go.ChangeAt Go.RowKit
mutual
theorem tour_inj : ∀ (x y : Lx.Ex) (d : Int) (A B : List (Pt × Int)), tour x d ++ A = tour y d ++ B → x = y ∧ A = B
  | .mk o nm nu xs, .mk o' nm' nu' ys, d, A, B, h => by
    rw [tour, tour, List.cons_append, List.cons_append] at h
    obtain ⟨h1, h2⟩ := List.cons.inj h
    have h3 := Pt.mk.inj (Prod.mk.inj h1).1
    obtain ⟨rfl, e2, rfl, e4⟩ := h3
    have e2 := congrArg (fun b => b.data.toList) e2
    have e2 : nm = nm' := by simpa using e2
    subst e2
    obtain ⟨rfl, q⟩ := tours_inj xs ys (d + 1) A B e4 h2
    exact ⟨rfl, q⟩
theorem tours_inj : ∀ (xs ys : List Lx.Ex) (d : Int) (A B : List (Pt × Int)), xs.length = ys.length → tours xs d ++ A = tours ys d ++ B → xs = ys ∧ A = B
  | [], [], d, A, B, _, h => by rw [tours] at h; exact ⟨rfl, h⟩
  | [], y :: r, d, A, B, e, h => by cases e
  | x :: r, [], d, A, B, e, h => by cases e
  | x :: r, y :: r', d, A, B, e, h => by
    rw [tours, tours, List.append_assoc, List.append_assoc] at h
    obtain ⟨rfl, h9⟩ := tour_inj x y d _ _ h
    obtain ⟨rfl, h8⟩ := tours_inj r _ d A B (by simpa using e) h9
    exact ⟨rfl, h8⟩
end
theorem ex_kids {w : World} {n : Nat} {v : Value} {op : Int} {nm : List UInt8} {nu : List Int} {xs : List Lx.Ex} (h : ExAt w n v (tour (.mk op nm nu xs))) : ∃ (m : Nat) (an : Option Addr) (nn nc : Nat) (aa : Option Addr) (ac : Nat), n = m + 1 ∧ v = .agg #[.int .u8 op, .string ⟨nm.toArray⟩, .slice an nn nc, .slice aa xs.length ac] ∧ HdAt w ⟨op, ⟨nm.toArray⟩, nu, xs.length⟩ an nn nc aa ac ∧
    (0 < xs.length → ∃ b q, aa = some ⟨b, q, none⟩ ∧ ∀ i (h : i < xs.length), ∃ x0 x1 x2 x3, w.cell? ⟨b, q + i * 4, none⟩ = some x0 ∧ w.cell? ⟨b, q + i * 4 + 1, none⟩ = some x1 ∧ w.cell? ⟨b, q + i * 4 + 2, none⟩ = some x2 ∧ w.cell? ⟨b, q + i * 4 + 3, none⟩ = some x3 ∧ ExAt w m (.agg #[x0, x1, x2, x3]) (tour xs[i])) := by
  match n, h with
  | m + 1, h =>
    obtain ⟨p, an, nn, nc, aa, ac, Fs, e1, hh, e2, e3, hc⟩ := h
    obtain ⟨ys, rfl⟩ := trees_of Fs (fun G hG => by
      obtain ⟨i, hi, rfl⟩ := List.getElem_of_mem hG
      obtain ⟨b, q, e, hx⟩ := hc (by omega)
      obtain ⟨x0, x1, x2, x3, _, _, _, _, hr⟩ := hx i hi
      exact tour_ex m _ _ hr)
    have e4 := congrFun e3 0
    rw [tour] at e4
    obtain ⟨h1, h2⟩ := List.cons.inj e4
    have h1 : (⟨op, ⟨nm.toArray⟩, nu, xs.length⟩ : Pt) = p := (Prod.mk.inj h1).1
    subst h1
    rw [← tours_flat] at h2
    have e2 : xs.length = ys.length := by simpa using e2.symm
    obtain ⟨rfl, _⟩ := tours_inj xs ys (0 + 1) [] [] e2 (by rw [h2])
    refine ⟨m, an, nn, nc, aa, ac, rfl, e1, hh, fun h0 => ?_⟩
    obtain ⟨b, q, e, hx⟩ := hc h0
    refine ⟨b, q, e, fun i hi => ?_⟩
    obtain ⟨x0, x1, x2, x3, c0, c1, c2, c3, hr⟩ := hx i (by simpa using hi)
    exact ⟨x0, x1, x2, x3, c0, c1, c2, c3, by simpa using hr⟩
end Go.Proofs.YtimjendkpjojoaaDoor
