/- Plainly: the canonical form. -/
import Derived.Test.YtkhnoikdfelheaaK1
namespace Go.Proofs.Ytkhnoikdfelheaa
set_option linter.unusedVariables false
set_option linter.unusedSimpArgs false
open Go.ChangeShapes Go.WideShapes Go.ChangeAt Go.RowKit
theorem meas_full {F : Fv} (h : F.Meas) (hl : F.cs.length = F.cn) : Full F.cs F.N ∨ F.cs = [] := by
  rcases h with ⟨_, _, h⟩ | ⟨h0, h1, _⟩
  · exact .inr (List.eq_nil_of_length_eq_zero (by omega))
  · exact .inl ⟨by omega, by omega⟩
/-- The exceptions that are not as the core would have it. -/
def canOs (F : Fv) : List Gr := F.os.filter (fun o => !(decide (o.2 = cg F.cs F.P F.N o.1)))
/-- G is the canonical form of F. -/
structure IsCan (F G : Fv) : Prop where
  turn : IsTurn F.cs F.P F.N G.cn
  N : G.N = G.cn
  P : G.P = canP F.P F.N G.cn
  cs : G.cs = F.cs.take G.cn
  os : G.os = canOs F
theorem exc_filter {os : List Gr} (h : os.Pairwise (fun a b => a.1 < b.1)) (p : Gr → Bool) (i : Int) : exc (os.filter p) i = match exc os i with
    | some l => if p (i, l) then some l else none
    | none => none := by
  cases e : exc os i with
  | none =>
    rw [exc_none] at e
    exact exc_none.2 (fun o ho => e o (List.mem_filter.1 ho).1)
  | some l =>
    obtain ⟨n, hn, h1, h2⟩ := exc_some e
    have hm : os[n] ∈ os := List.getElem_mem hn
    have ho : os[n] = (i, l) := Prod.ext h1 h2
    show exc (os.filter p) i = if p (i, l) then some l else none
    by_cases q : p (i, l) = true
    · rw [if_pos q]
      have hf : os[n] ∈ os.filter p := List.mem_filter.2 ⟨hm, by rw [ho]; exact q⟩
      obtain ⟨m, hm2, e2⟩ := List.getElem_of_mem hf
      have := exc_at (h.filter p) hm2 (i := i) (by rw [e2]; exact h1)
      rw [this, e2, h2]
    · rw [if_neg q]
      refine exc_none.2 (fun o hf e3 => ?_)
      obtain ⟨k, hk, e4⟩ := List.getElem_of_mem (List.mem_filter.1 hf).1
      have : os[k] = os[n] := by
        rcases Nat.lt_trichotomy k n with z | z | z
        · have := inc_at h k n hk hn z; rw [e4, e3, h1] at this; omega
        · subst z; rfl
        · have := inc_at h n k hn hk z; rw [e4, e3, h1] at this; omega
      have h5 := (List.mem_filter.1 hf).2
      rw [← e4, this, ho] at h5
      exact q h5
theorem can_gr {F G : Fv} (c : IsCan F G) (hf : Full F.cs F.N ∨ F.cs = []) (ho : F.os.Pairwise (fun a b => a.1 < b.1)) (i : Int) : gr G i = gr F i := by
  have hc : cg G.cs G.P G.N i = cg F.cs F.P F.N i := by rw [c.cs, c.P, c.N]; exact can_core hf c.turn i
  unfold gr
  rw [c.os, hc]
  unfold canOs
  rw [exc_filter ho]
  cases e : exc F.os i with
  | none => rfl
  | some l =>
    by_cases q : l = cg F.cs F.P F.N i
    · simp [q]
    · simp [q]
theorem nr_gr {F G : Fv} (h : ∀ i, gr G i = gr F i) {x st j : Int} {ok : Bool} (n : Nr G x st j ok) : Nr F x st j ok := by
  refine ⟨fun e => ?_, fun e k k1 => by rw [← h]; exact n.no e k k1, n.low, n.high⟩
  obtain ⟨a, b, d⟩ := n.yes e
  exact ⟨a, by rw [← h]; exact b, fun k k1 k2 => by rw [← h]; exact d k k1 k2⟩
theorem canP_mul {P N : Int} {d : Nat} {cs : List (List Sp)} (t : TurnOk cs P N d) : N * canP P N d = P * d := by
  have := t.pos
  unfold canP
  rw [if_neg (by omega)]
  exact Int.mul_ediv_cancel' t.per
/-- The canonical form is right. -/
theorem can_rt {F G : Fv} (c : IsCan F G) (h : F.Rt) (hl : F.cs.length = F.cn) : G.Rt := by
  have hf := meas_full h.meas hl
  have hg := can_gr c hf h.odd.inc
  have hos : ∀ o ∈ G.os, o ∈ F.os := fun o ho => by rw [c.os] at ho; exact (List.mem_filter.1 ho).1
  refine ⟨?_, fun l q => h.core l (by rw [c.cs] at q; exact List.mem_of_mem_take q), ⟨fun o ho => h.odd.good o (hos o ho), by rw [c.os]; exact h.odd.inc.filter _⟩, ⟨?_, ?_⟩, fun i => ⟨?_, ?_⟩⟩
  · rcases c.turn with ⟨d0, _⟩ | ⟨⟨l, hl2, _⟩, t, _⟩
    · left
      refine ⟨by rw [c.N, d0]; rfl, by rw [c.P, d0]; rfl, d0⟩
    · right
      have f : Full F.cs F.N := by
        rcases hf with f | e
        · exact f
        · rw [e] at hl2; cases hl2
      have hle := turn_le f t
      have hp := t.pos
      have hm := canP_mul t
      obtain ⟨P1, P2⟩ : 1 ≤ F.P ∧ F.P ≤ 1099511627776 := by
        rcases h.meas with ⟨a, _, _⟩ | ⟨_, _, a, b⟩
        · have := f.1; omega
        · exact ⟨a, b⟩
      have hN := f.1
      have hdN : (G.cn : Int) ≤ F.N := by have := f.2; omega
      refine ⟨by rw [c.N]; omega, c.N, ?_, ?_⟩
      · rw [c.P]
        have h1 : 0 < F.P * (G.cn : Int) := Int.mul_pos (by omega) (by omega)
        rw [← hm] at h1
        have := Int.pos_of_mul_pos_right h1 (by omega)
        omega
      · rw [c.P]
        have h1 : F.P * (G.cn : Int) ≤ F.P * F.N := Int.mul_le_mul_of_nonneg_left hdN (by omega)
        rw [← hm, Int.mul_comm F.P] at h1
        have := Int.le_of_mul_le_mul_left h1 hN
        omega
  · rw [c.cs]; exact h.ris.order.sublist (List.take_sublist _ _)
  · intro a ha b hb s hs u hu
    rcases c.turn with ⟨d0, _⟩ | ⟨⟨l, hl2, _⟩, t, _⟩
    · rw [c.cs, d0] at ha; simp at ha
    · have f : Full F.cs F.N := by
        rcases hf with f | e
        · exact f
        · rw [e] at hl2; cases hl2
      rw [c.cs] at ha hb
      obtain ⟨i, hi, rfl⟩ := List.getElem_of_mem ha
      obtain ⟨j, hj, rfl⟩ := List.getElem_of_mem hb
      have hi2 : i < F.cs.length ∧ i < G.cn := by rw [List.length_take] at hi; omega
      have hj2 : j < F.cs.length ∧ j < G.cn := by rw [List.length_take] at hj; omega
      rw [List.getElem_take] at hs hu
      have q := core_order h hl (i := (i : Int)) (k := (j : Int) + G.cn) (by omega)
      rw [t.go, cg_nat f hi2.1, cg_nat f hj2.1] at q
      have := q s hs (u.1 + F.P * (G.cn : Int) / F.N, u.2 + F.P * (G.cn : Int) / F.N) (List.mem_map.2 ⟨u, hu, rfl⟩)
      rw [c.P]
      unfold canP
      rw [if_neg (by have := t.pos; omega)]
      exact this
  · intro hi j hn
    obtain ⟨n, hn2, e⟩ := List.getElem_of_mem (hos _ (List.getElem_mem hi))
    have := (h.fit n).1 hn2 j (by rw [e]; exact nr_gr hg hn)
    rw [e, ← hg] at this
    exact this
  · intro hi j hn
    obtain ⟨n, hn2, e⟩ := List.getElem_of_mem (hos _ (List.getElem_mem hi))
    have := (h.fit n).2 hn2 j (by rw [e]; exact nr_gr hg hn)
    rw [e, ← hg] at this
    exact this
/-- The canonical form of a canonical form is itself. -/
theorem can_can {F G : Fv} (c : IsCan F G) (hf : Full F.cs F.N ∨ F.cs = []) : IsCan G G := by
  have hS : ∀ i, cg G.cs G.P G.N i = cg F.cs F.P F.N i := fun i => by rw [c.cs, c.P, c.N]; exact can_core hf c.turn i
  have hos : canOs G = G.os := by
    unfold canOs
    rw [List.filter_eq_self]
    intro o ho
    rw [hS]
    have q := ho
    rw [c.os] at q
    exact (List.mem_filter.1 q).2
  rcases c.turn with ⟨d0, hb⟩ | ⟨⟨l, hl2, hne⟩, t, hmin⟩
  · have hcs : G.cs = [] := by rw [c.cs, d0]; rfl
    refine ⟨.inl ⟨d0, fun l hl => (by rw [hcs] at hl; cases hl)⟩, c.N, ?_, by rw [hcs]; simp, hos.symm⟩
    rw [c.P, d0]; rfl
  · have f : Full F.cs F.N := by
      rcases hf with f | e
      · exact f
      · rw [e] at hl2; cases hl2
    have f2 : Full G.cs G.N := by rw [c.cs, c.N]; exact take_full f t
    have hlen : G.cs.length = G.cn := by have := f2.2; rw [c.N] at this; omega
    have hp := t.pos
    have hm := canP_mul t
    rw [← c.P] at hm
    have ta := turn_all (P := G.P) f2
    rw [hlen] at ta
    refine ⟨.inr ⟨?_, ta, fun e he => hmin e ⟨he.pos, ?_, ?_, fun i => ?_⟩⟩, c.N, ?_, by rw [← hlen]; exact (List.take_length).symm, hos.symm⟩
    · obtain ⟨i, hi, rfl⟩ := List.getElem_of_mem hl2
      have e1 := hS (i : Int)
      rw [cg_nat f hi] at e1
      obtain ⟨r, q, hr, _, e2⟩ := cg_split (P := G.P) f2 (i : Int)
      rw [e2] at e1
      exact ⟨_, List.getElem_mem hr, fun z => by rw [z] at e1; exact hne e1.symm⟩
    · have a := he.div
      rw [c.N] at a
      exact Int.dvd_trans a t.div
    · obtain ⟨m, hm2⟩ := he.per
      rw [c.N] at hm2
      refine ⟨m, ?_⟩
      have : F.P * (e : Int) * (G.cn : Int) = F.N * m * (G.cn : Int) := by
        calc F.P * (e : Int) * (G.cn : Int) = F.P * (G.cn : Int) * e := by rw [Int.mul_assoc, Int.mul_comm (e : Int), ← Int.mul_assoc]
          _ = F.N * G.P * e := by rw [hm]
          _ = F.N * (G.P * e) := Int.mul_assoc ..
          _ = F.N * ((G.cn : Int) * m) := by rw [hm2]
          _ = F.N * m * (G.cn : Int) := by rw [Int.mul_comm (G.cn : Int), ← Int.mul_assoc]
      exact Int.eq_of_mul_eq_mul_right (by omega) this
    · obtain ⟨m, hm2⟩ := he.per
      have g := he.go i
      rw [hS, hS] at g
      rw [g]
      congr 1
      rw [hm2, Int.mul_ediv_cancel_left _ (by have := f2.1; omega)]
      rw [c.N] at hm2
      have : F.P * (e : Int) * (G.cn : Int) = F.N * m * (G.cn : Int) := by
        calc F.P * (e : Int) * (G.cn : Int) = F.P * (G.cn : Int) * e := by rw [Int.mul_assoc, Int.mul_comm (e : Int), ← Int.mul_assoc]
          _ = F.N * G.P * e := by rw [hm]
          _ = F.N * (G.P * e) := Int.mul_assoc ..
          _ = F.N * ((G.cn : Int) * m) := by rw [hm2]
          _ = F.N * m * (G.cn : Int) := by rw [Int.mul_comm (G.cn : Int), ← Int.mul_assoc]
      have e2 := Int.eq_of_mul_eq_mul_right (by omega) this
      rw [e2, Int.mul_ediv_cancel_left _ (by have := f.1; omega)]
    · unfold canP
      rw [if_neg (by omega), c.N, Int.mul_ediv_cancel _ (by omega)]
end Go.Proofs.Ytkhnoikdfelheaa
