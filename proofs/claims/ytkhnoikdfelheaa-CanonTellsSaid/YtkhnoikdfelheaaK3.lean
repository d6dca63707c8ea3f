/- Plainly: canonical forms are complete. -/
import Derived.Test.YtkhnoikdfelheaaK2
namespace Go.Proofs.Ytkhnoikdfelheaa
set_option linter.unusedVariables false
set_option linter.unusedSimpArgs false
open Go.ChangeShapes Go.WideShapes Go.ChangeAt Go.RowKit
/-- A sequence goes on by d sets, p ticks later. -/
def Per (S : Int → List Sp) (d : Nat) (p : Int) : Prop := 0 < d ∧ ∀ i, S (i + d) = moved (S i) p
theorem per_least {S : Int → List Sp} {n : Nat} {q : Int} (h : Per S n q) : ∃ d p, Per S d p ∧ ∀ e r, Per S e r → d ≤ e := by
  have key : ∀ m, (∃ d p, Per S d p ∧ d ≤ m) → ∃ d p, Per S d p ∧ ∀ e r, Per S e r → d ≤ e := by
    intro m
    induction m with
    | zero => rintro ⟨d, p, a, b⟩; have := a.1; omega
    | succ m ih =>
      rintro ⟨d, p, a, b⟩
      by_cases z : ∃ d p, Per S d p ∧ d ≤ m
      · exact ih z
      · refine ⟨d, p, a, fun e r he => ?_⟩
        rcases Nat.lt_or_ge m e with y | y
        · omega
        · exact absurd ⟨e, r, he, y⟩ z
  exact key n ⟨n, q, h, Nat.le_refl _⟩
theorem per_div {S : Int → List Sp} {d n : Nat} {p q : Int} (h : Per S d p) (hmin : ∀ e r, Per S e r → d ≤ e) (hn : Per S n q) (hne : ∃ i, S i ≠ []) : ∃ m : Int, (n : Int) = d * m ∧ q = p * m := by
  have hd := h.1
  obtain ⟨r, hr⟩ : ∃ r, n % d = r := ⟨_, rfl⟩
  obtain ⟨m, hm⟩ : ∃ m, n / d = m := ⟨_, rfl⟩
  have e : n = d * m + r := by rw [← hr, ← hm]; exact (Nat.div_add_mod n d).symm
  have hlt : r < d := by rw [← hr]; exact Nat.mod_lt _ hd
  have eZ : (n : Int) = (d : Int) * (m : Int) + (r : Int) := by rw [e]; simp
  have go : ∀ i, S (i + r) = moved (S i) (q - p * m) := by
    intro i
    have a := hn.2 i
    have b := seq_iter (S := S) h.2 (m : Int) (i + r)
    rw [show i + (r : Int) + (d : Int) * (m : Int) = i + n by omega, a] at b
    have c := congrArg (fun x => moved x (-(p * (m : Int)))) b
    simp only [moved_moved] at c
    rw [show p * (m : Int) + -(p * (m : Int)) = 0 by omega, moved_zero] at c
    rw [← c]
    congr 1
  by_cases z : r = 0
  · refine ⟨m, by rw [eZ, z]; simp, ?_⟩
    obtain ⟨i, hi⟩ := hne
    have g := go i
    rw [z, show i + ((0 : Nat) : Int) = i by simp] at g
    have : moved (S i) 0 = moved (S i) (q - p * m) := by rw [moved_zero]; exact g
    have := moved_far hi this
    omega
  · have := hmin r _ ⟨by omega, go⟩
    omega
/-- The least turn of a core is the least one of its sets. -/
theorem turn_per {cs : List (List Sp)} {P N : Int} {d d0 : Nat} {p0 : Int} (f : Full cs N) (t : TurnOk cs P N d) (hmin : ∀ e, TurnOk cs P N e → d ≤ e) (h0 : Per (cg cs P N) d0 p0) (hm0 : ∀ e r, Per (cg cs P N) e r → d0 ≤ e) (hne : ∃ i, cg cs P N i ≠ []) : d = d0 ∧ canP P N d = p0 := by
  have hN := f.1
  have hn : Per (cg cs P N) cs.length P := ⟨by have := f.2; omega, fun i => by have := cg_next (P := P) f (k := i); rw [f.2] at this ⊢; exact this⟩
  obtain ⟨m, e1, e2⟩ := per_div h0 hm0 hn hne
  have hd0 := h0.1
  have eN : N = (d0 : Int) * m := by rw [← e1]; exact f.2
  have eP : P * (d0 : Int) = N * p0 := by rw [e2, eN, Int.mul_comm p0 m, Int.mul_comm (d0 : Int) m, Int.mul_assoc, Int.mul_assoc, Int.mul_comm p0]
  have t0 : TurnOk cs P N d0 := ⟨hd0, ⟨m, eN⟩, ⟨p0, eP⟩, fun i => by rw [eP, Int.mul_ediv_cancel_left _ (by omega)]; exact h0.2 i⟩
  have a := hmin d0 t0
  have b := hm0 d _ ⟨t.pos, t.go⟩
  have e : d = d0 := by omega
  refine ⟨e, ?_⟩
  unfold canP
  rw [if_neg (by have := t.pos; omega), e, eP, Int.mul_ediv_cancel_left _ (by omega)]
/-- Two cores with the same sets have the same canonical core. -/
theorem core_same {F1 F2 G1 G2 : Fv} (c1 : IsCan F1 G1) (c2 : IsCan F2 G2) (f1 : Full F1.cs F1.N ∨ F1.cs = []) (f2 : Full F2.cs F2.N ∨ F2.cs = []) (h : ∀ i, cg F1.cs F1.P F1.N i = cg F2.cs F2.P F2.N i) : G1.P = G2.P ∧ G1.N = G2.N ∧ G1.cs = G2.cs := by
  have full : ∀ {F G : Fv}, IsCan F G → (Full F.cs F.N ∨ F.cs = []) → (∃ l ∈ F.cs, l ≠ []) → Full F.cs F.N := by
    intro F G _ f he
    rcases f with f | e
    · exact f
    · obtain ⟨l, hl, _⟩ := he; rw [e] at hl; cases hl
  have some_ : ∀ {F : Fv}, Full F.cs F.N → (∃ l ∈ F.cs, l ≠ []) → ∃ i, cg F.cs F.P F.N i ≠ [] := by
    intro F f ⟨l, hl, hn⟩
    obtain ⟨i, hi, rfl⟩ := List.getElem_of_mem hl
    exact ⟨i, by rw [cg_nat f hi]; exact hn⟩
  rcases c1.turn with ⟨d1, b1⟩ | ⟨n1, t1, m1⟩
  · rcases c2.turn with ⟨d2, b2⟩ | ⟨n2, t2, m2⟩
    · exact ⟨by rw [c1.P, c2.P, d1, d2]; rfl, by rw [c1.N, c2.N, d1, d2], by rw [c1.cs, c2.cs, d1, d2]; rfl⟩
    · obtain ⟨i, hi⟩ := some_ (full c2 f2 n2) n2
      rw [← h i, cg_bare b1] at hi
      exact absurd rfl hi
  · rcases c2.turn with ⟨d2, b2⟩ | ⟨n2, t2, m2⟩
    · obtain ⟨i, hi⟩ := some_ (full c1 f1 n1) n1
      rw [h i, cg_bare b2] at hi
      exact absurd rfl hi
    · have g1 := full c1 f1 n1
      have g2 := full c2 f2 n2
      have s1 := some_ g1 n1
      have s2 := some_ g2 n2
      have hn : Per (cg F1.cs F1.P F1.N) G1.cn _ := ⟨t1.pos, t1.go⟩
      obtain ⟨d0, p0, h0, hm0⟩ := per_least hn
      have e1 := turn_per g1 t1 m1 h0 hm0 s1
      have hS : cg F1.cs F1.P F1.N = cg F2.cs F2.P F2.N := funext h
      have e2 := turn_per g2 t2 m2 (by rw [← hS]; exact h0) (by rw [← hS]; exact hm0) s2
      have ed : G1.cn = G2.cn := by omega
      refine ⟨by rw [c1.P, c2.P, e1.2, e2.2], by rw [c1.N, c2.N, ed], ?_⟩
      rw [c1.cs, c2.cs, ed]
      have l1 := turn_le g1 t1
      have l2 := turn_le g2 t2
      apply List.ext_getElem
      · rw [List.length_take, List.length_take]; omega
      · intro i h1 h2
        rw [List.getElem_take, List.getElem_take]
        have a1 : i < F1.cs.length := by rw [List.length_take] at h1; omega
        have a2 : i < F2.cs.length := by rw [List.length_take] at h2; omega
        have := h (i : Int)
        rwa [cg_nat g1 a1, cg_nat g2 a2] at this
theorem sorted_same : ∀ {l k : List Gr}, l.Pairwise (fun a b => a.1 < b.1) → k.Pairwise (fun a b => a.1 < b.1) → (∀ o, o ∈ l ↔ o ∈ k) → l = k
  | [], k, _, _, h => by
    cases k with
    | nil => rfl
    | cons o r => exact absurd ((h o).2 (List.mem_cons_self ..)) (by simp)
  | o :: r, [], _, _, h => absurd ((h o).1 (List.mem_cons_self ..)) (by simp)
  | o :: r, u :: s, hl, hk, h => by
    rw [List.pairwise_cons] at hl hk
    have e : o = u := by
      rcases List.mem_cons.1 ((h o).1 (List.mem_cons_self ..)) with q | q
      · exact q
      · rcases List.mem_cons.1 ((h u).2 (List.mem_cons_self ..)) with q2 | q2
        · exact q2.symm
        · have := hk.1 o q; have := hl.1 u q2; omega
    subst e
    rw [sorted_same hl.2 hk.2 (fun x => ?_)]
    constructor
    · intro hx
      rcases List.mem_cons.1 ((h x).1 (List.mem_cons_of_mem _ hx)) with q | q
      · subst q; have := hl.1 x hx; omega
      · exact q
    · intro hx
      rcases List.mem_cons.1 ((h x).2 (List.mem_cons_of_mem _ hx)) with q | q
      · subst q; have := hk.1 x hx; omega
      · exact q
theorem mem_canOs {F : Fv} (h : F.os.Pairwise (fun a b => a.1 < b.1)) (o : Gr) : o ∈ canOs F ↔ gr F o.1 = o.2 ∧ o.2 ≠ cg F.cs F.P F.N o.1 := by
  unfold canOs
  rw [List.mem_filter]
  constructor
  · rintro ⟨a, b⟩
    obtain ⟨n, hn, rfl⟩ := List.getElem_of_mem a
    exact ⟨gr_at h n hn, by simpa using b⟩
  · rintro ⟨a, b⟩
    refine ⟨?_, by simpa using b⟩
    cases e : exc F.os o.1 with
    | none =>
      rw [gr_free e] at a
      exact absurd a.symm b
    | some l =>
      obtain ⟨n, hn, h1, h2⟩ := exc_some e
      have : gr F o.1 = l := by unfold gr; rw [e]
      have ho : F.os[n] = o := Prod.ext h1 (by rw [h2, ← this]; exact a)
      rw [← ho]; exact List.getElem_mem hn
/-- Two forms with the same sets have the same canonical form. -/
theorem can_unique {F1 F2 G1 G2 : Fv} (c1 : IsCan F1 G1) (c2 : IsCan F2 G2) (f1 : Full F1.cs F1.N ∨ F1.cs = []) (f2 : Full F2.cs F2.N ∨ F2.cs = []) (o1 : F1.os.Pairwise (fun a b => a.1 < b.1)) (o2 : F2.os.Pairwise (fun a b => a.1 < b.1)) (h : ∀ i, cg F1.cs F1.P F1.N i = cg F2.cs F2.P F2.N i) (hx : ∀ i, (exc F1.os i ≠ none ∨ exc F2.os i ≠ none) → gr F1 i = gr F2 i) : G1.P = G2.P ∧ G1.N = G2.N ∧ G1.cs = G2.cs ∧ G1.os = G2.os := by
  obtain ⟨a, b, c⟩ := core_same c1 c2 f1 f2 h
  refine ⟨a, b, c, ?_⟩
  have hg : ∀ i, gr F1 i = gr F2 i := fun i => by
    by_cases q : exc F1.os i ≠ none ∨ exc F2.os i ≠ none
    · exact hx i q
    · have q1 : exc F1.os i = none := Classical.byContradiction (fun z => q (.inl z))
      have q2 : exc F2.os i = none := Classical.byContradiction (fun z => q (.inr z))
      rw [gr_free q1, gr_free q2]; exact h i
  rw [c1.os, c2.os]
  refine sorted_same (o1.filter _) (o2.filter _) (fun o => ?_)
  show o ∈ canOs F1 ↔ o ∈ canOs F2
  rw [mem_canOs o1, mem_canOs o2, hg, h]
/-- The other way about. -/
theorem can_same {F1 F2 G1 G2 : Fv} (c1 : IsCan F1 G1) (c2 : IsCan F2 G2) (f1 : Full F1.cs F1.N ∨ F1.cs = []) (f2 : Full F2.cs F2.N ∨ F2.cs = []) (o1 : F1.os.Pairwise (fun a b => a.1 < b.1)) (o2 : F2.os.Pairwise (fun a b => a.1 < b.1)) (e : G1.P = G2.P ∧ G1.N = G2.N ∧ G1.cs = G2.cs ∧ G1.os = G2.os) (i : Int) : gr F1 i = gr F2 i := by
  rw [← can_gr c1 f1 o1, ← can_gr c2 f2 o2]
  obtain ⟨a, b, c, d⟩ := e
  unfold gr
  rw [a, b, c, d]
/-- Cores that are alike in a window that is long enough are alike everywhere. -/
theorem core_window {c1 c2 : List (List Sp)} {P1 N1 P2 N2 : Int} (f1 : Full c1 N1 ∨ c1 = []) (f2 : Full c2 N2 ∨ c2 = []) (a : Int) (L : Int) (hL : N1 * N2 + N1 + N2 ≤ L) (n1 : 0 ≤ N1) (n2 : 0 ≤ N2) (h : ∀ i, a ≤ i → i < a + L → cg c1 P1 N1 i = cg c2 P2 N2 i) : ∀ i, cg c1 P1 N1 i = cg c2 P2 N2 i := by
  have nf : ∀ {c : List (List Sp)} {P N : Int}, (Full c N ∨ c = []) → ¬ Full c N → ∀ i, cg c P N i = [] := fun _ q i => cg_out q
  -- a place of the window, for any index
  have place : ∀ (N i : Int), 0 < N → ∃ q j, i = j + N * q ∧ a ≤ j ∧ j < a + N := by
    intro N i hN
    obtain ⟨h0, h1⟩ := fmod_nat (i - a) hN
    exact ⟨(i - a).fdiv N, a + (i - a).fmod N, by have := fmod_eq (i - a) N; omega, by omega, by omega⟩
  have empty : ∀ {c c' : List (List Sp)} {P N P' N' : Int}, Full c N → N ≤ L → (∀ i, a ≤ i → i < a + L → cg c P N i = cg c' P' N' i) → (∀ i, cg c' P' N' i = []) → ∀ i, cg c P N i = [] := by
    intro c c' P N P' N' f hN hh he i
    obtain ⟨q, j, e, j1, j2⟩ := place N i f.1
    rw [e, cg_nexts f, hh j j1 (by omega), he]; rfl
  have hm : 0 ≤ N1 * N2 := Int.mul_nonneg n1 n2
  by_cases g1 : Full c1 N1
  · by_cases g2 : Full c2 N2
    · by_cases hn : ∃ i, cg c1 P1 N1 i ≠ []
      · obtain ⟨i, hi⟩ := hn
        obtain ⟨q, j, e, j1, j2⟩ := place N1 i g1.1
        rw [e, cg_nexts g1, moved_ne] at hi
        have s1 := cg_nexts (P := P1) g1 N2 j
        have s2 := cg_nexts (P := P2) g2 N1 j
        have w1 := h j j1 (by omega)
        have w2 := h (j + N1 * N2) (by omega) (by omega)
        rw [Int.mul_comm N2 N1] at s2
        rw [s1, s2, ← w1] at w2
        have eQ : P1 * N2 = P2 * N1 := moved_far hi w2
        intro k
        have hM : 0 < N1 * N2 := Int.mul_pos g1.1 g2.1
        obtain ⟨q, j, e, j1, j2⟩ := place (N1 * N2) k hM
        have a1 := cg_nexts (P := P1) g1 (N2 * q) j
        have a2 := cg_nexts (P := P2) g2 (N1 * q) j
        rw [← Int.mul_assoc] at a1 a2
        rw [Int.mul_comm N2 N1] at a2
        rw [e, a1, a2, h j j1 (by omega), ← Int.mul_assoc, ← Int.mul_assoc, eQ]
      · have e1 : ∀ i, cg c1 P1 N1 i = [] := fun i => Classical.byContradiction (fun z => hn ⟨i, z⟩)
        have e2 := empty g2 (by omega) (fun i i1 i2 => (h i i1 i2).symm) e1
        intro i; rw [e1, e2]
    · have e2 := nf (P := P2) f2 g2
      have e1 := empty g1 (by omega) h e2
      intro i; rw [e1, e2]
  · have e1 := nf (P := P1) f1 g1
    by_cases g2 : Full c2 N2
    · have e2 := empty g2 (by omega) (fun i i1 i2 => (h i i1 i2).symm) e1
      intro i; rw [e1, e2]
    · intro i; rw [e1, nf (P := P2) f2 g2]
end Go.Proofs.Ytkhnoikdfelheaa
