/- A tree that lies in memory; what its words are. -/
import Derived.Test.YtimjendkpjojoaaDoorQ7
import Derived.Test.YtimjendkpjojoaaDoorQ2
import Derived.Test.YtimjendkpjojoaaDoorV4
import Derived.Test.YtimjendkpjojoaaDoorQ0
namespace Go.Proofs.YtimjendkpjojoaaDoor
set_option linter.unusedVariables false
set_option linter.unusedSimpArgs false
open Go.ChangeShapes Go.WideShapes Go.ChangeAt Go.RowKit

theorem trees_of : ∀ (Fs : List Tour), (∀ F ∈ Fs, ∃ x : Lx.Ex, F = tour x) → ∃ xs : List Lx.Ex, Fs = xs.map tour
  | [], _ => ⟨[], rfl⟩
  | F :: r, h => by
    obtain ⟨x, rfl⟩ := h F List.mem_cons_self
    obtain ⟨xs, rfl⟩ := trees_of r (fun G hG => h G (List.mem_cons_of_mem _ hG))
    exact ⟨x :: xs, rfl⟩
theorem tour_ex {w : World} : ∀ (n : Nat) (v : Value) (F : Tour), ExAt w n v F → ∃ x : Lx.Ex, F = tour x
  | 0, _, _, h => h.elim
  | n + 1, v, F, h => by
    obtain ⟨p, an, nn, nc, aa, ac, Fs, e1, hh, e2, e3, hc⟩ := h
    obtain ⟨xs, rfl⟩ := trees_of Fs (fun G hG => by
      obtain ⟨i, hi, rfl⟩ := List.getElem_of_mem hG
      obtain ⟨b, q, e, hx⟩ := hc (by omega)
      obtain ⟨x0, x1, x2, x3, _, _, _, _, hr⟩ := hx i hi
      exact tour_ex n _ _ hr)
    refine ⟨.mk p.op p.nm.data.toList p.nums xs, ?_⟩
    rw [e3]
    funext d
    rw [tour, tours_flat]
    obtain ⟨op, nm, nu, k⟩ := p
    have e2 : (xs.map tour).length = k := e2
    rw [List.length_map] at e2
    subst e2
    rfl
/-- What the parts of a tree in memory are. -/
def Fine (p : Pt) : Prop := 0 ≤ p.op ∧ p.nm.size ≤ maxLen ∧ ∀ z ∈ p.nums, -9223372036854775808 ≤ z ∧ z ≤ 9223372036854775807
theorem hd_fine {w : World} {p : Pt} {an aa : Option Addr} {nn nc ac : Nat} (h : HdAt w p an nn nc aa ac) : Fine p := by
  refine ⟨h.o1, h.nmle, fun z hz => ?_⟩
  obtain ⟨i, hi, rfl⟩ := List.getElem_of_mem hz
  obtain ⟨b, q, _, hc⟩ := h.nums.here (by have := h.nums.len; omega)
  exact (hc i hi).2
theorem ex_fine {w : World} : ∀ {n : Nat} {v : Value} {F : Tour}, ExAt w n v F → ∀ d, ∀ y ∈ F d, Fine y.1
  | 0, _, _, h, _, _, _ => h.elim
  | n + 1, v, F, h, d, y, hy => by
    obtain ⟨p, an, nn, nc, aa, ac, Fs, e1, hh, e2, rfl, hc⟩ := h
    rcases List.mem_cons.1 hy with rfl | hy
    · exact hd_fine hh
    · obtain ⟨l, hl, hy⟩ := List.mem_flatten.1 hy
      obtain ⟨G, hG, rfl⟩ := List.mem_map.1 hl
      obtain ⟨i, hi, rfl⟩ := List.getElem_of_mem hG
      obtain ⟨b, q, e, hx⟩ := hc (by omega)
      obtain ⟨x0, x1, x2, x3, _, _, _, _, hr⟩ := hx i hi
      exact ex_fine hr _ y hy
theorem tours_mem {xs : List Lx.Ex} {x : Lx.Ex} (h : x ∈ xs) (d : Int) {y : Pt × Int} (hy : y ∈ tour x d) : y ∈ tours xs d := by
  rw [tours_flat]
  exact List.mem_flatten.2 ⟨tour x d, List.mem_map.2 ⟨tour x, List.mem_map.2 ⟨x, h, rfl⟩, rfl⟩, hy⟩
theorem ok_of : ∀ (k : Nat) (x : Lx.Ex) (d : Int), (∀ y ∈ tour x d, y.2 + 1 ≤ d + k ∧ FitP y.1 ∧ Fine y.1) → Lx.Ok k x
  | 0, .mk op nm nu xs, d, h => by
    have := (h _ (by rw [tour]; exact List.mem_cons_self)).1
    dsimp only at this
    omega
  | k + 1, .mk op nm nu xs, d, h => by
    obtain ⟨_, f, g⟩ := h (⟨op, ⟨nm.toArray⟩, nu, xs.length⟩, d) (by rw [tour]; exact List.mem_cons_self)
    have f1 : op ≤ 12 := f.op
    have f2 : (nu.length : Int) = nN op.toNat := f.nums
    have f3 : (xs.length : Int) = aN op.toNat := f.args
    have f4 : if op = 0 then RName ⟨nm.toArray⟩ else (⟨nm.toArray⟩ : ByteArray) = ⟨#[]⟩ := f.name
    have g1 : 0 ≤ op := g.1
    by_cases z : op = 0
    · subst z
      refine .inl ⟨rfl, ?_, ?_⟩
      · have f2 : (nu.length : Int) = 0 := f2
        exact List.eq_nil_of_length_eq_zero (by omega)
      · have f3 : (xs.length : Int) = 0 := f3
        exact List.eq_nil_of_length_eq_zero (by omega)
    · rw [if_neg z] at f4
      rw [nuN_eq _ (by omega)] at f2
      rw [arN_eq _ (by omega)] at f3
      refine .inr ⟨by omega, f1, ?_, by omega, by omega, fun x hx => ok_of k x (d + 1) (fun y hy => ?_)⟩
      · simpa using f4
      · have := h y (by rw [tour]; exact List.mem_cons_of_mem _ (tours_mem hx _ hy))
        exact ⟨by omega, this.2⟩
mutual
theorem cnt_len : ∀ (x : Lx.Ex) (d : Int), (tour x d).length = Lx.cnt x
  | .mk op nm nu xs, d => by rw [tour, Lx.cnt, List.length_cons, cnts_len xs]; omega
theorem cnts_len : ∀ (xs : List Lx.Ex) (d : Int), (tours xs d).length = Lx.cnts xs
  | [], d => by rw [tours, Lx.cnts]; rfl
  | x :: r, d => by rw [tours, Lx.cnts, List.length_append, cnt_len x, cnts_len r]
end
theorem right_ok {x : Lx.Ex} (h : RightL (tour x 1)) (hf : ∀ y ∈ tour x 1, Fine y.1) : Lx.Ok 40 x ∧ Lx.cnt x ≤ 2000 :=
  ⟨ok_of 40 x 1 (fun y hy => ⟨by have := (h.2 y hy).1; omega, (h.2 y hy).2, hf y hy⟩), by rw [← cnt_len x 1]; exact h.1⟩
/-! How many words, and which. -/
theorem nW_len (b : List UInt8) : ∀ nu : List Int, ∀ b, (Lx.nW b nu).length = 2 * nu.length
  | [], b => rfl
  | z :: r, b => by simp only [Lx.nW, List.length_cons, nW_len [] r]; omega
theorem aW_len : ∀ (k : Nat) (xs : List Lx.Ex) (b : List UInt8), (∀ x ∈ xs, (Lx.wordsX x).length + 1 ≤ 10 * Lx.cnt x) → (Lx.aW b xs).length ≤ 10 * Lx.cnts xs
  | _, [], b, _ => by rw [Lx.aW, Lx.cnts]; exact Nat.le_refl _
  | k, x :: r, b, h => by
    have h1 := h x List.mem_cons_self
    have h2 := aW_len k r [44] (fun y hy => h y (List.mem_cons_of_mem _ hy))
    rw [Lx.aW, Lx.cnts, List.length_cons, List.length_append]; omega
theorem words_len : ∀ (k : Nat) (x : Lx.Ex), Lx.Ok k x → (Lx.wordsX x).length + 1 ≤ 10 * Lx.cnt x
  | 0, _, h => h.elim
  | k + 1, .mk op nm nu xs, h => by
    rcases h with ⟨rfl, rfl, rfl⟩ | ⟨h1, h2, rfl, h3, h4, h5⟩
    · rw [Lx.wordsX, if_pos rfl, Lx.cnt, Lx.cnts]; show 1 + 1 ≤ 10 * (1 + 0); decide
    · have hz : ¬ op = 0 := by omega
      have hn := nuN_le op.toNat (by omega)
      have := aW_len k xs (Lx.sepN [40] nu) (fun x hx => words_len k x (h5 x hx))
      rw [Lx.wordsX, if_neg hz, Lx.cnt]
      simp only [List.length_cons, List.length_append, List.length_nil, nW_len []]
      omega
theorem op_short (i : Nat) : (Lx.opW.getD i []).length ≤ maxLen := by
  rw [List.getD_eq_getElem?_getD]
  cases e : Lx.opW[i]? with
  | none => exact Nat.zero_le _
  | some t =>
    have := List.mem_of_getElem? e
    have h : ∀ t ∈ Lx.opW, t.length ≤ 7 := by decide
    have := h t this
    show t.length ≤ _
    unfold maxLen; omega
theorem tkb_one {k : Int} {b : List UInt8} {z : Int} (h1 : 0 ≤ k ∧ k ≤ 255) (h2 : b.length ≤ maxLen) (h3 : -9223372036854775808 ≤ z ∧ z ≤ 9223372036854775807) {l : List Lx.Tk} (q : Lx.TkB l) : Lx.TkB ((k, b, z) :: l) := fun y hy => by
  rcases List.mem_cons.1 hy with rfl | e
  · exact ⟨h1, h2, h3⟩
  · exact q y e
theorem tkb_nW : ∀ (nu : List Int) (b : List UInt8), b.length ≤ 1 → (∀ z ∈ nu, -9223372036854775808 ≤ z ∧ z ≤ 9223372036854775807) → Lx.TkB (Lx.nW b nu)
  | [], b, _, _ => tkb_nil
  | z :: r, b, hb, h => tkb_one (by decide) (by unfold maxLen; omega) (by decide) (tkb_one (by decide) (Nat.zero_le _) (h z List.mem_cons_self) (tkb_nW r [44] (by decide) (fun y hy => h y (List.mem_cons_of_mem _ hy))))
theorem tkb_aW : ∀ (xs : List Lx.Ex) (b : List UInt8), b.length ≤ 1 → (∀ x ∈ xs, Lx.TkB (Lx.wordsX x)) → Lx.TkB (Lx.aW b xs)
  | [], b, _, _ => by rw [Lx.aW]; exact tkb_nil
  | x :: r, b, hb, h => by
    rw [Lx.aW]
    exact tkb_one (by decide) (by unfold maxLen; omega) (by decide) (tkb_app (h x List.mem_cons_self) (tkb_aW r [44] (by decide) (fun y hy => h y (List.mem_cons_of_mem _ hy))))
theorem tkb_words : ∀ (k : Nat) (x : Lx.Ex) (d : Int), Lx.Ok k x → (∀ y ∈ tour x d, Fine y.1) → Lx.TkB (Lx.wordsX x)
  | 0, _, _, h, _ => h.elim
  | k + 1, .mk op nm nu xs, d, h, hf => by
    obtain ⟨_, g2, g3⟩ := hf (⟨op, ⟨nm.toArray⟩, nu, xs.length⟩, d) (by rw [tour]; exact List.mem_cons_self)
    have g2 : (⟨nm.toArray⟩ : ByteArray).size ≤ maxLen := g2
    have g3 : ∀ z ∈ nu, -9223372036854775808 ≤ z ∧ z ≤ 9223372036854775807 := g3
    have c0 : (-9223372036854775808 : Int) ≤ 0 ∧ (0 : Int) ≤ 9223372036854775807 := by decide
    rw [Lx.wordsX]
    split
    · exact tkb_one (by decide) (by rw [Lib.size_eq] at g2; simpa using g2) c0 tkb_nil
    · rename_i hz
      rcases h with ⟨z, _, _⟩ | ⟨_, _, _, _, _, h5⟩
      · exact absurd z hz
      · refine tkb_one (by decide) (op_short _) c0 (tkb_app (tkb_nW nu [40] (by decide) g3) (tkb_app (tkb_aW xs _ ?_ (fun x hx => tkb_words k x (d + 1) (h5 x hx) (fun y hy => hf y (by rw [tour]; exact List.mem_cons_of_mem _ (tours_mem hx _ hy))))) (tkb_one (by decide) (by decide) c0 tkb_nil)))
        unfold Lx.sepN; split <;> decide
/-! The words, one after another. -/
/-- Words with marks between. -/
def bodW (its : List (List Lx.Tk)) : List Lx.Tk := ((its.map (fun i => ((4, [44], 0) : Lx.Tk) :: i)).flatten).drop 1
theorem bod_nil : bodW [] = [] := rfl
theorem bod_one (i : List Lx.Tk) : bodW [i] = i := by simp [bodW]
theorem bod_snoc {its : List (List Lx.Tk)} (h : its ≠ []) (i : List Lx.Tk) : bodW (its ++ [i]) = bodW its ++ ((4, [44], 0) :: i) := by
  cases its with
  | nil => exact absurd rfl h
  | cons a r => simp [bodW]
def itemsX (nu : List Int) (xs : List Lx.Ex) : List (List Lx.Tk) := nu.map (fun z => [((2, [], z) : Lx.Tk)]) ++ xs.map Lx.wordsX
theorem nW_flat : ∀ nu : List Int, Lx.nW [44] nu = ((nu.map (fun z => [((2, [], z) : Lx.Tk)])).map (fun i => ((4, [44], 0) : Lx.Tk) :: i)).flatten
  | [] => rfl
  | z :: r => by rw [Lx.nW, nW_flat r]; rfl
theorem aW_flat : ∀ xs : List Lx.Ex, Lx.aW [44] xs = ((xs.map Lx.wordsX).map (fun i => ((4, [44], 0) : Lx.Tk) :: i)).flatten
  | [] => by rw [Lx.aW]; rfl
  | x :: r => by rw [Lx.aW, aW_flat r]; rfl
theorem words_bod (nu : List Int) (xs : List Lx.Ex) (h : xs ≠ []) : Lx.nW [40] nu ++ Lx.aW (Lx.sepN [40] nu) xs = (4, [40], 0) :: bodW (itemsX nu xs) := by
  cases nu with
  | nil =>
    cases xs with
    | nil => exact absurd rfl h
    | cons x r =>
      show Lx.aW [40] (x :: r) = _
      rw [Lx.aW, aW_flat]
      simp [itemsX, bodW]
  | cons z r =>
    show (4, [40], 0) :: (2, [], z) :: Lx.nW [44] r ++ Lx.aW [44] xs = _
    rw [aW_flat, nW_flat]
    simp [itemsX, bodW]
end Go.Proofs.YtimjendkpjojoaaDoor
