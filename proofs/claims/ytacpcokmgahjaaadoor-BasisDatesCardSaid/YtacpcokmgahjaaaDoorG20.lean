/- Plainly: the granules of a right form are in order. -/
import Derived.Test.YtacpcokmgahjaaaDoorG19
namespace Go.Proofs.YtacpcokmgahjaaaDoor
set_option linter.unusedVariables false
set_option linter.unusedSimpArgs false
open Go.ChangeShapes Go.WideShapes Go.ChangeAt Go.RowKit
theorem moved_ord {l : List Sp} (g : Good l) (d : Int) : ∀ s ∈ moved l d, s.1 ≤ s.2 := by
  intro s hs
  obtain ⟨u, hu, rfl⟩ := List.mem_map.1 hs
  obtain ⟨i, hi, rfl⟩ := List.getElem_of_mem hu
  have := good_at g i hi
  show l[i].1 + d ≤ l[i].2 + d
  omega
theorem cset_good {cs : List (List Sp)} (h : ∀ l ∈ cs, Good l) (N i : Int) : Good (cset cs N i) := by
  unfold cset
  rw [List.getD_eq_getElem?_getD]
  cases e : cs[(i.fmod N).toNat]? with
  | none => trivial
  | some l => exact h l (List.mem_of_getElem? e)
theorem gr_core {F : Fv} (h : F.Ok) (i : Int) : (∃ l d, Good l ∧ gr F i = moved l d) := by
  unfold gr
  cases e : exc F.os i with
  | some l =>
    obtain ⟨n, hn, h1, h2⟩ := exc_some e
    refine ⟨l, 0, ?_, ?_⟩
    · rw [← h2]; exact (h.odd.good _ (List.getElem_mem hn)).1
    · show l = moved l 0
      unfold moved; simp
  | none =>
    unfold cg
    by_cases q : 0 < F.N ∧ F.N = F.cs.length
    · exact ⟨cset F.cs F.N i, F.P * i.fdiv F.N, cset_good h.core _ _, by simp only [if_pos q]⟩
    · exact ⟨[], 0, trivial, by simp only [if_neg q]; rfl⟩
theorem gr_ord {F : Fv} (h : F.Ok) (i : Int) : ∀ s ∈ gr F i, s.1 ≤ s.2 := by
  obtain ⟨l, d, g, e⟩ := gr_core h i
  rw [e]; exact moved_ord g d
theorem gr_good {F : Fv} (h : F.Ok) {i : Int} (hf : Fit (gr F i)) : Good (gr F i) := by
  obtain ⟨l, d, g, e⟩ := gr_core h i
  rw [e] at hf ⊢
  exact good_moved d g ((fit_moved l d).1 hf)
theorem ahd_thru {a b c : List Sp} (hb : b ≠ []) (ho : ∀ s ∈ b, s.1 ≤ s.2) (h1 : Ahd a b) (h2 : Ahd b c) : Ahd a c := by
  intro s hs u hu
  obtain ⟨v, hv⟩ := List.exists_mem_of_ne_nil b hb
  have := h1 s hs v hv
  have := h2 v hv u hu
  have := ho v hv
  omega
theorem core_order {F : Fv} (h : F.Rt) (hl : F.cs.length = F.cn) {i k : Int} (hik : i < k) : Ahd (cg F.cs F.P F.N i) (cg F.cs F.P F.N k) := by
  unfold cg
  by_cases q : 0 < F.N ∧ F.N = F.cs.length
  · rw [if_pos q, if_pos q]
    obtain ⟨q1, q2⟩ := q
    have hP : 1 ≤ F.P := by
      rcases h.meas with ⟨a, _, _⟩ | ⟨_, _, a, _⟩
      · omega
      · exact a
    obtain ⟨a1, a2⟩ := fmod_nat i q1
    obtain ⟨b1, b2⟩ := fmod_nat k q1
    have ei := fmod_eq i F.N
    have ek := fmod_eq k F.N
    have li : (i.fmod F.N).toNat < F.cs.length := by omega
    have lk : (k.fmod F.N).toNat < F.cs.length := by omega
    have ci : cset F.cs F.N i = F.cs[(i.fmod F.N).toNat] := by unfold cset; rw [List.getD_eq_getElem?_getD, List.getElem?_eq_getElem li]; rfl
    have ck : cset F.cs F.N k = F.cs[(k.fmod F.N).toNat] := by unfold cset; rw [List.getD_eq_getElem?_getD, List.getElem?_eq_getElem lk]; rfl
    rcases Int.lt_trichotomy (i.fdiv F.N) (k.fdiv F.N) with z | z | z
    · intro s hs u hu
      obtain ⟨s', hs', rfl⟩ := List.mem_map.1 hs
      obtain ⟨u', hu', rfl⟩ := List.mem_map.1 hu
      rw [ci] at hs'
      rw [ck] at hu'
      have t := h.ris.turn _ (List.getElem_mem li) _ (List.getElem_mem lk) s' hs' u' hu'
      have m1 : F.P * (i.fdiv F.N + 1) ≤ F.P * k.fdiv F.N := Int.mul_le_mul_of_nonneg_left (by omega) (by omega)
      rw [Int.mul_add, Int.mul_one] at m1
      show s'.2 + F.P * i.fdiv F.N < u'.1 + F.P * k.fdiv F.N
      omega
    · rw [z] at ei ⊢
      rw [ahd_moved, ci, ck]
      exact List.pairwise_iff_getElem.1 h.ris.order _ _ li lk (by omega)
    · have m1 : F.N * (k.fdiv F.N + 1) ≤ F.N * i.fdiv F.N := Int.mul_le_mul_of_nonneg_left (by omega) (by omega)
      rw [Int.mul_add, Int.mul_one] at m1
      omega
  · rw [if_neg q]
    intro s hs; cases hs
theorem gr_adj {F : Fv} (h : F.Rt) (ok : F.Ok) (hl : F.cs.length = F.cn) {i k : Int} (hik : i < k) (hi : gr F i ≠ []) (hk : gr F k ≠ []) (hm : ∀ m, i < m → m < k → gr F m = []) (i1 : -1099511627776 ≤ i) (k1 : k ≤ 1099511627776) : Ahd (gr F i) (gr F k) := by
  cases ek : exc F.os k with
  | some l =>
    obtain ⟨n, hn, h1, h2⟩ := exc_some ek
    have hg := gr_at ok.odd.inc n hn
    rw [h1] at hg
    have f := (h.fit n).1 hn i ⟨fun _ => ⟨by rw [h1]; omega, hi, fun m m1 m2 => hm m (by omega) (by rw [h1] at m1; omega)⟩, (fun z => by cases z), by omega, by omega⟩
    rw [← hg] at f
    have g1 := gr_good ok f.1
    have g2 : Good (gr F k) := by rw [hg]; exact (ok.odd.good _ (List.getElem_mem hn)).1
    have := f.2 hk
    simp at this
    exact (ahd_hull g1 g2 hi hk).2 this
  | none =>
    cases ei : exc F.os i with
    | some l =>
      obtain ⟨n, hn, h1, h2⟩ := exc_some ei
      have hg := gr_at ok.odd.inc n hn
      rw [h1] at hg
      have f := (h.fit n).2 hn k ⟨fun _ => ⟨by rw [h1]; omega, hk, fun m m1 m2 => hm m (by rw [h1] at m1; omega) (by omega)⟩, (fun z => by cases z), by omega, by omega⟩
      rw [← hg] at f
      have g1 := gr_good ok f.1
      have g2 : Good (gr F i) := by rw [hg]; exact (ok.odd.good _ (List.getElem_mem hn)).1
      have := f.2 hi
      simp at this
      exact (ahd_hull g2 g1 hi hk).2 this
    | none =>
      rw [gr_free ei, gr_free ek]
      exact core_order h hl hik
theorem gr_order {F : Fv} (h : F.Rt) (ok : F.Ok) (hl : F.cs.length = F.cn) : ∀ (n : Nat) {i k : Int}, (k - i).toNat ≤ n → i < k → -1099511627776 ≤ i → k ≤ 1099511627776 → Ahd (gr F i) (gr F k)
  | 0, i, k, hn, hik, _, _ => by omega
  | n + 1, i, k, hn, hik, i1, k1 => by
    by_cases hi : gr F i = []
    · rw [hi]; intro s hs; cases hs
    · by_cases hk : gr F k = []
      · rw [hk]; intro s _ u hu; cases hu
      · by_cases hm : ∃ m, i < m ∧ m < k ∧ gr F m ≠ []
        · obtain ⟨m, m1, m2, m3⟩ := hm
          exact ahd_thru m3 (gr_ord ok m) (gr_order h ok hl n (by omega) m1 i1 (by omega)) (gr_order h ok hl n (by omega) m2 (by omega) k1)
        · refine gr_adj h ok hl hik hi hk (fun m m1 m2 => ?_) i1 k1
          by_cases z : gr F m = []
          · exact z
          · exact absurd ⟨m, m1, m2, z⟩ hm
end Go.Proofs.YtacpcokmgahjaaaDoor
