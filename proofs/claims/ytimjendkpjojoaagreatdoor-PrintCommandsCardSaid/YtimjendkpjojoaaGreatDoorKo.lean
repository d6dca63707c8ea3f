/- E25 in one. -/
import Derived.Test.YtimjendkpjojoaaGreatDoorKn
namespace Go.Proofs.YtimjendkpjojoaaGreatDoor
set_option linter.unusedVariables false
set_option linter.unusedSimpArgs false
open Go.ChangeShapes Go.WideShapes Go.ChangeAt Go.RowKit
theorem nm_inj (a b : ByteArray) : a.toList = b.toList ↔ a = b := by
  rw [ByteArray.toList_eq, ByteArray.toList_eq]
  constructor
  · intro h
    cases a; cases b
    simp only at h
    rw [Array.toList_inj] at h
    rw [h]
  · rintro rfl; rfl
theorem flats_pref {P Q : Tour → Prop} (ih : ∀ F G, P F → Q G → ∀ d A B, F d ++ A = G d ++ B → F = G ∧ A = B) : ∀ (Fs Gs : List Tour), Fs.length = Gs.length → (∀ F ∈ Fs, P F) → (∀ G ∈ Gs, Q G) → ∀ d A B, flat Fs d ++ A = flat Gs d ++ B → Fs = Gs ∧ A = B
  | [], [], _, _, _, d, A, B, h => ⟨rfl, by simpa [flat] using h⟩
  | [], _ :: _, h, _, _, _, _, _, _ => by cases h
  | _ :: _, [], h, _, _, _, _, _, _ => by cases h
  | F :: Fs, G :: Gs, hl, hp, hq, d, A, B, h => by
    have e1 : flat (F :: Fs) d = F d ++ flat Fs d := by simp [flat]
    have e2 : flat (G :: Gs) d = G d ++ flat Gs d := by simp [flat]
    rw [e1, e2, List.append_assoc, List.append_assoc] at h
    obtain ⟨rfl, h1⟩ := ih F G (hp F (List.mem_cons_self ..)) (hq G (List.mem_cons_self ..)) d _ _ h
    obtain ⟨rfl, h2⟩ := flats_pref ih Fs Gs (by simpa using hl) (fun F h => hp F (List.mem_cons_of_mem _ h)) (fun F h => hq F (List.mem_cons_of_mem _ h)) d A B h1
    exact ⟨rfl, h2⟩
theorem exs_of {w : World} {n : Nat} {k : Nat} {aa : Option Addr} {Fs : List Tour} (hk : Fs.length = k) (hc : 0 < k → ∃ b q, aa = some (⟨b, q, none⟩ : Addr) ∧ ∀ i (h : i < Fs.length), ∃ x0 x1 x2 x3, w.cell? ⟨b, q + i * 4, none⟩ = some x0 ∧ w.cell? ⟨b, q + i * 4 + 1, none⟩ = some x1 ∧ w.cell? ⟨b, q + i * 4 + 2, none⟩ = some x2 ∧ w.cell? ⟨b, q + i * 4 + 3, none⟩ = some x3 ∧ ExAt w n (.agg #[x0, x1, x2, x3]) Fs[i]) : ∀ F ∈ Fs, ∃ v, ExAt w n v F := by
  intro F hF
  obtain ⟨i, hi, rfl⟩ := List.getElem_of_mem hF
  obtain ⟨b, q, _, h⟩ := hc (by omega)
  obtain ⟨x0, x1, x2, x3, _, _, _, _, h⟩ := h i hi
  exact ⟨_, h⟩
theorem tour_pref {w w' : World} : ∀ (n m : Nat) (F G : Tour), (∃ v, ExAt w n v F) → (∃ v, ExAt w' m v G) → ∀ d A B, F d ++ A = G d ++ B → F = G ∧ A = B
  | 0, _, _, _, ⟨_, h⟩, _, _, _, _, _ => h.elim
  | _ + 1, 0, _, _, _, ⟨_, h⟩, _, _, _, _ => h.elim
  | n + 1, m + 1, F, G, ⟨v, h⟩, ⟨v', h'⟩, d, A, B, e => by
    obtain ⟨p, an, nn, nc, aa, ac, Fs, rfl, hh, hk, rfl, hc⟩ := h
    obtain ⟨q, am, mm, mc, ab, ad, Gs, rfl, hg, hj, rfl, hd⟩ := h'
    have e' : (p, d) :: (flat Fs (d + 1) ++ A) = (q, d) :: (flat Gs (d + 1) ++ B) := e
    injection e' with e1 e2
    injection e1 with e1 _
    subst e1
    obtain ⟨rfl, e3⟩ := flats_pref (fun F G hF hG => tour_pref n m F G hF hG) Fs Gs (hk.trans hj.symm) (exs_of hk hc) (exs_of hj hd) (d + 1) A B e2
    exact ⟨rfl, e3⟩
theorem tours_eq {w w' : World} {n m : Nat} {p q : Pt} {Fs Gs : List Tour} (hk : Fs.length = p.k) (hj : Gs.length = q.k) (hF : ∀ F ∈ Fs, ∃ v, ExAt w n v F) (hG : ∀ F ∈ Gs, ∃ v, ExAt w' m v F) : ((fun d => (p, d) :: flat Fs (d + 1)) : Tour) = (fun d => (q, d) :: flat Gs (d + 1)) ↔ p = q ∧ Fs = Gs := by
  constructor
  · intro h
    have e := congrFun h 0
    injection e with e1 e2
    injection e1 with e1 _
    refine ⟨e1, ?_⟩
    subst e1
    exact (flats_pref (fun F G hF hG => tour_pref n m F G hF hG) Fs Gs (hk.trans hj.symm) hF hG (0 + 1) [] [] (by simpa using e2)).1
  · rintro ⟨rfl, rfl⟩; rfl
theorem pt_eq (p q : Pt) : p = q ↔ p.op = q.op ∧ p.nm = q.nm ∧ p.nums = q.nums ∧ p.k = q.k := by
  constructor
  · rintro rfl; exact ⟨rfl, rfl, rfl, rfl⟩
  · intro h
    cases p; cases q
    obtain ⟨h1, h2, h3, h4⟩ := h
    simp only at h1 h2 h3 h4
    subst h1 h2 h3 h4
    rfl
/-- What makes two expressions the same. -/
def SameP (p q : Pt) (Fs Gs : List Tour) : Prop := p.op = q.op ∧ p.nm = q.nm ∧ p.nums = q.nums ∧ p.k = q.k ∧ Fs = Gs
theorem same_iff {w w' : World} {n m : Nat} {p q : Pt} {Fs Gs : List Tour} (hk : Fs.length = p.k) (hj : Gs.length = q.k) (hF : ∀ F ∈ Fs, ∃ v, ExAt w n v F) (hG : ∀ F ∈ Gs, ∃ v, ExAt w' m v F) : ((fun d => (p, d) :: flat Fs (d + 1)) : Tour) = (fun d => (q, d) :: flat Gs (d + 1)) ↔ SameP p q Fs Gs := by
  rw [tours_eq hk hj hF hG, pt_eq]; unfold SameP
  exact ⟨fun h => ⟨h.1.1, h.1.2.1, h.1.2.2.1, h.1.2.2.2, h.2⟩, fun h => ⟨⟨h.1, h.2.1, h.2.2.1, h.2.2.2.1⟩, h.2.2.2.2⟩⟩
/-- Two boxes. -/
structure Bx2 (w0 w : World) (b : Nat) (cs ds : Array Value) : Prop where
  bw : Below w0.heap.size w0 w
  b1 : w.heap[b]? = some (.cells cs 25 (0, 0))
  b2 : w.heap[b + 1]? = some (.cells ds 25 (0, 0))
theorem Bx2.keep {w0 w w' : World} {b : Nat} {cs ds : Array Value} (h : Bx2 w0 w b cs ds) (q : Below w.heap.size w w') : Bx2 w0 w' b cs ds := ⟨h.bw.trans (q.mono h.bw.size), (q.block b (Array.getElem?_eq_some_iff.1 h.b1).1).trans h.b1, (q.block (b + 1) (Array.getElem?_eq_some_iff.1 h.b2).1).trans h.b2⟩
end Go.Proofs.YtimjendkpjojoaaGreatDoor
