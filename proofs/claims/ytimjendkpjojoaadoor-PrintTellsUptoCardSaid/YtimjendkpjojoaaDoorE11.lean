/- Names, plainly; appended lists. -/
import Derived.Test.YtimjendkpjojoaaDoorE10
import Derived.Laws.AppendOwnNone
namespace Go.Proofs.YtimjendkpjojoaaDoor
set_option linter.unusedVariables false
set_option linter.unusedSimpArgs false
open Go.ChangeShapes Go.WideShapes Go.ChangeAt Go.RowKit
/-- The parts do not hang on the depth at which they are told. -/
theorem ex_parts {w : World} : ∀ {n : Nat} {v : Value} {F : Tour}, ExAt w n v F → ∀ d e, (F d).map (fun x => x.1) = (F e).map (fun x => x.1)
  | 0, _, _, h => h.elim
  | n + 1, v, F, h => by
    obtain ⟨p, an, nn, nc, aa, ac, Fs, _, _, hl, rfl, hc⟩ := h
    intro d e
    have key : ∀ G ∈ Fs, ∀ d e, (G d).map (fun x => x.1) = (G e).map (fun x => x.1) := fun G hG => by
      obtain ⟨i, hi, rfl⟩ := List.getElem_of_mem hG
      obtain ⟨b, q, _, hx⟩ := hc (by omega)
      obtain ⟨x0, x1, x2, x3, _, _, _, _, hr⟩ := hx i hi
      exact ex_parts hr
    show p :: (flat Fs (d + 1)).map (fun x => x.1) = p :: (flat Fs (e + 1)).map (fun x => x.1)
    congr 1
    unfold flat
    rw [List.map_flatten, List.map_flatten, List.map_map, List.map_map]
    congr 1
    exact List.map_congr_left fun G hG => key G hG (d + 1) (e + 1)
theorem ex_len {w : World} {n : Nat} {v : Value} {F : Tour} (h : ExAt w n v F) (d e : Int) : (F d).length = (F e).length := by
  have := congrArg List.length (ex_parts h d e)
  simpa using this
/-- Somewhere there is a leaf. -/
theorem ex_leaf {w : World} : ∀ {n : Nat} {v : Value} {F : Tour}, ExAt w n v F → ∀ d, ∃ x ∈ F d, x.1.k = 0
  | 0, _, _, h => h.elim
  | n + 1, v, F, h => by
    obtain ⟨p, an, nn, nc, aa, ac, Fs, _, _, hl, rfl, hc⟩ := h
    intro d
    by_cases hk : p.k = 0
    · exact ⟨(p, d), List.mem_cons_self .., hk⟩
    · obtain ⟨b, q, _, hx⟩ := hc (by omega)
      obtain ⟨x0, x1, x2, x3, _, _, _, _, hr⟩ := hx 0 (by omega)
      obtain ⟨y, hy, hy0⟩ := ex_leaf hr (d + 1)
      refine ⟨y, List.mem_cons_of_mem _ ?_, hy0⟩
      unfold flat
      exact List.mem_flatten.2 ⟨_, List.mem_map.2 ⟨Fs[0]'(by omega), List.getElem_mem _, rfl⟩, hy⟩
theorem fit_leaf {p : Pt} (h : FitP p) (h0 : 0 ≤ p.op) (hk : p.k = 0) : p.op = 0 ∧ RName p.nm := by
  have a := h.args
  rw [hk] at a
  have o := h.op
  have b := (aN_bd p.op.toNat (by omega)).2.2 a.symm
  have e : p.op = 0 := by omega
  have n := h.name
  rw [if_pos e] at n
  exact ⟨e, n⟩
/-- All parts lie as parts do. -/
theorem ex_heads {w : World} : ∀ {n : Nat} {v : Value} {F : Tour}, ExAt w n v F → ∀ d, ∀ x ∈ F d, 0 ≤ x.1.op ∧ x.1.nm.size ≤ maxLen
  | 0, _, _, h => h.elim
  | n + 1, v, F, h => by
    obtain ⟨p, an, nn, nc, aa, ac, Fs, _, hh, hl, rfl, hc⟩ := h
    intro d x hx
    rcases List.mem_cons.1 hx with rfl | hx
    · exact ⟨hh.o1, hh.nmle⟩
    · unfold flat at hx
      obtain ⟨l, hl2, hx⟩ := List.mem_flatten.1 hx
      obtain ⟨G, hG, rfl⟩ := List.mem_map.1 hl2
      obtain ⟨i, hi, rfl⟩ := List.getElem_of_mem hG
      obtain ⟨b, q, _, hx2⟩ := hc (by omega)
      obtain ⟨x0, x1, x2, x3, _, _, _, _, hr⟩ := hx2 i hi
      exact ex_heads hr (d + 1) x hx
end Go.Proofs.YtimjendkpjojoaaDoor
