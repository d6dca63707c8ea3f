/- E20, E21, E22, E23 in one. -/
import Derived.Test.YtimjendkpjojoaaGreatDoorKh
import Derived.Test.YtimjendkpjojoaaGreatDoorKg
namespace Go.Proofs.YtimjendkpjojoaaGreatDoor
set_option linter.unusedVariables false
set_option linter.unusedSimpArgs false
open Go.ChangeShapes Go.WideShapes Go.ChangeAt Go.RowKit
theorem flat_take (Fs : List Tour) (d : Int) {j : Nat} (h : j < Fs.length) : flat (Fs.take (j + 1)) d = flat (Fs.take j) d ++ Fs[j] d := by
  rw [List.take_succ_eq_append_getElem h, flat_snoc]
theorem flat_len_take (Fs : List Tour) (d : Int) (j : Nat) : (flat (Fs.take j) d).length ≤ (flat Fs d).length := by
  have : (flat Fs d).length = (flat (Fs.take j) d).length + (flat (Fs.drop j) d).length := by rw [← List.length_append, ← flat_app, List.take_append_drop]
  omega
/-- A part in its box. -/
structure Bx1 (w0 w : World) (b : Nat) (cs : Array Value) : Prop where
  bw : Below w0.heap.size w0 w
  box : w.heap[b]? = some (.cells cs 25 (0, 0))
theorem Bx1.keep {w0 w w' : World} {b : Nat} {cs : Array Value} (h : Bx1 w0 w b cs) (q : Below w.heap.size w w') : Bx1 w0 w' b cs := ⟨h.bw.trans (q.mono h.bw.size), (q.block b (Array.getElem?_eq_some_iff.1 h.box).1).trans h.box⟩
def dfold (c : Int) (l : List (Pt × Int)) : Int := l.foldl (fun c x => max c x.2) c
theorem dfold_run : ∀ (l : List (Pt × Int)) (c : Int), run dStep c l = (dfold c l, true)
  | [], c => rfl
  | x :: r, c => by
    have e : dStep c x.1 x.2 = (max c x.2, true) := rfl
    rw [run_t (by rw [e]), e, dfold_run r]
    rfl
theorem dfold_app (a b : List (Pt × Int)) (c : Int) : dfold c (a ++ b) = dfold (dfold c a) b := by unfold dfold; rw [List.foldl_append]
theorem dfold_max : ∀ (l : List (Pt × Int)) (c : Int), 0 ≤ c → dfold c l = max c (dfold 0 l) ∧ 0 ≤ dfold 0 l
  | [], c, h => ⟨by show c = max c 0; omega, Int.le_refl _⟩
  | x :: r, c, h => by
    have a := dfold_max r (max c x.2) (by omega)
    have b := dfold_max r (max 0 x.2) (by omega)
    show dfold (max c x.2) r = max c (dfold (max 0 x.2) r) ∧ 0 ≤ dfold (max 0 x.2) r
    rw [a.1, b.1]
    omega
/-- The depths of an expression's parts go with the depth at which it stands. -/
theorem ex_shift {w : World} : ∀ {n : Nat} {v : Value} {F : Tour}, ExAt w n v F → ∀ d, F (d + 1) = (F d).map (fun x => (x.1, x.2 + 1))
  | 0, _, _, h => h.elim
  | n + 1, v, F, h => by
    obtain ⟨p, an, nn, nc, aa, ac, Fs, _, _, hl, rfl, hc⟩ := h
    intro d
    have key : ∀ G ∈ Fs, ∀ d, G (d + 1) = (G d).map (fun x => (x.1, x.2 + 1)) := fun G hG => by
      obtain ⟨i, hi, rfl⟩ := List.getElem_of_mem hG
      obtain ⟨b, q, _, hx⟩ := hc (by omega)
      obtain ⟨x0, x1, x2, x3, _, _, _, _, hr⟩ := hx i hi
      exact ex_shift hr
    show (p, d + 1) :: flat Fs (d + 1 + 1) = (p, d + 1) :: (flat Fs (d + 1)).map (fun x => (x.1, x.2 + 1))
    congr 1
    unfold flat
    rw [List.map_flatten, List.map_map]
    congr 1
    exact List.map_congr_left fun G hG => key G hG (d + 1)
theorem ex_deep {w : World} : ∀ {n : Nat} {v : Value} {F : Tour}, ExAt w n v F → ∀ d, ∀ x ∈ F d, d ≤ x.2 ∧ x.2 + 1 ≤ d + n
  | 0, _, _, h => h.elim
  | n + 1, v, F, h => by
    obtain ⟨p, an, nn, nc, aa, ac, Fs, _, hh, hl, rfl, hc⟩ := h
    intro d x hx
    rcases List.mem_cons.1 hx with rfl | hx
    · exact ⟨Int.le_refl _, by simp; omega⟩
    · unfold flat at hx
      obtain ⟨l, hl2, hx⟩ := List.mem_flatten.1 hx
      obtain ⟨G, hG, rfl⟩ := List.mem_map.1 hl2
      obtain ⟨i, hi, rfl⟩ := List.getElem_of_mem hG
      obtain ⟨b, q, _, hx2⟩ := hc (by omega)
      obtain ⟨x0, x1, x2, x3, _, _, _, _, hr⟩ := hx2 i hi
      have := ex_deep hr (d + 1) x hx
      omega
theorem dfold_shift : ∀ (l : List (Pt × Int)), (∀ x ∈ l, 1 ≤ x.2) → l ≠ [] → dfold 0 (l.map (fun x => (x.1, x.2 + 1))) = dfold 0 l + 1
  | [], _, h => absurd rfl h
  | [x], h, _ => by
    have := h x (by simp)
    show max 0 (x.2 + 1) = max 0 x.2 + 1
    omega
  | x :: y :: r, h, _ => by
    have ih := dfold_shift (y :: r) (fun z hz => h z (List.mem_cons_of_mem _ hz)) (by simp)
    have hx := h x (by simp)
    have e1 : dfold 0 ((x :: y :: r).map (fun x => (x.1, x.2 + 1))) = dfold (max 0 (x.2 + 1)) ((y :: r).map (fun x => (x.1, x.2 + 1))) := rfl
    have e2 : dfold 0 (x :: y :: r) = dfold (max 0 x.2) (y :: r) := rfl
    rw [e1, e2, (dfold_max _ (max 0 (x.2 + 1)) (by omega)).1, ih, (dfold_max (y :: r) (max 0 x.2) (by omega)).1]
    omega
theorem dfold_le : ∀ (l : List (Pt × Int)) (c m : Int), c ≤ m → (∀ x ∈ l, x.2 ≤ m) → dfold c l ≤ m
  | [], c, m, h, _ => h
  | x :: r, c, m, h, hx => dfold_le r (max c x.2) m (by have := hx x (by simp); omega) (fun y hy => hx y (List.mem_cons_of_mem _ hy))
theorem dep_two {w : World} {n : Nat} {v : Value} {F : Tour} (h : ExAt w n v F) : dfold 0 (F (1 + 1)) = dfold 0 (F 1) + 1 := by
  rw [ex_shift h 1]
  exact dfold_shift _ (fun x hx => (ex_deep h 1 x hx).1) (tour_ne h 1)
theorem dep_le {w : World} {n : Nat} {v : Value} {F : Tour} (h : ExAt w n v F) : 0 ≤ dfold 0 (F 1) ∧ dfold 0 (F 1) ≤ n :=
  ⟨(dfold_max _ 0 (Int.le_refl _)).2, dfold_le _ _ _ (by omega) (fun x hx => by have := ex_deep h 1 x hx; omega)⟩
def AllFit (l : List (Pt × Int)) : Prop := ∀ p ∈ l.map (fun x => x.1), FitP p
theorem allfit_app (a b : List (Pt × Int)) : AllFit (a ++ b) ↔ AllFit a ∧ AllFit b := by
  unfold AllFit
  rw [List.map_append]
  constructor
  · intro h; exact ⟨fun p hp => h p (List.mem_append_left _ hp), fun p hp => h p (List.mem_append_right _ hp)⟩
  · rintro ⟨h1, h2⟩ p hp
    rcases List.mem_append.1 hp with h | h
    · exact h1 p h
    · exact h2 p h
theorem allfit_at {w : World} {n : Nat} {v : Value} {F : Tour} (h : ExAt w n v F) (d e : Int) : AllFit (F d) ↔ AllFit (F e) := by
  unfold AllFit; rw [ex_parts h d e]
end Go.Proofs.YtimjendkpjojoaaGreatDoor
