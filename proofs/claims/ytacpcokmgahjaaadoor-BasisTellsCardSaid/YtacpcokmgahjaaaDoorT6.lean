/- What a name is answered: by the program, and by the document's own answer. -/
import Derived.Test.YtacpcokmgahjaaaDoorT5
namespace Go.Proofs.YtacpcokmgahjaaaDoor
set_option linter.unusedVariables false
set_option linter.unusedSimpArgs false
open Go.ChangeShapes Go.WideShapes Go.ChangeAt Go.RowKit
theorem nm_ne (i j : Nat) (hi : i < 6) (hj : j < i) : ((nm j).toList == (nm i).toList) = false := by
  match i, hi with
  | 0, _ => exact absurd hj (Nat.not_lt_zero _)
  | 1, _ =>
    match j, hj with
    | 0, _ => have h : ((nm 0).toList == (nm 1).toList) = false := by kernel_rfl
              exact h
  | 2, _ =>
    match j, hj with
    | 0, _ => have h : ((nm 0).toList == (nm 2).toList) = false := by kernel_rfl
              exact h
    | 1, _ => have h : ((nm 1).toList == (nm 2).toList) = false := by kernel_rfl
              exact h
  | 3, _ =>
    match j, hj with
    | 0, _ => have h : ((nm 0).toList == (nm 3).toList) = false := by kernel_rfl
              exact h
    | 1, _ => have h : ((nm 1).toList == (nm 3).toList) = false := by kernel_rfl
              exact h
    | 2, _ => have h : ((nm 2).toList == (nm 3).toList) = false := by kernel_rfl
              exact h
  | 4, _ =>
    match j, hj with
    | 0, _ => have h : ((nm 0).toList == (nm 4).toList) = false := by kernel_rfl
              exact h
    | 1, _ => have h : ((nm 1).toList == (nm 4).toList) = false := by kernel_rfl
              exact h
    | 2, _ => have h : ((nm 2).toList == (nm 4).toList) = false := by kernel_rfl
              exact h
    | 3, _ => have h : ((nm 3).toList == (nm 4).toList) = false := by kernel_rfl
              exact h
  | 5, _ =>
    match j, hj with
    | 0, _ => have h : ((nm 0).toList == (nm 5).toList) = false := by kernel_rfl
              exact h
    | 1, _ => have h : ((nm 1).toList == (nm 5).toList) = false := by kernel_rfl
              exact h
    | 2, _ => have h : ((nm 2).toList == (nm 5).toList) = false := by kernel_rfl
              exact h
    | 3, _ => have h : ((nm 3).toList == (nm 5).toList) = false := by kernel_rfl
              exact h
    | 4, _ => have h : ((nm 4).toList == (nm 5).toList) = false := by kernel_rfl
              exact h
theorem bytes_of_list {a b : ByteArray} (h : a.toList = b.toList) : a = b := by
  obtain ⟨⟨x⟩⟩ := a
  obtain ⟨⟨y⟩⟩ := b
  have e1 : (ByteArray.mk ⟨x⟩).toList = x := ByteArray.toList_mk x
  have e2 : (ByteArray.mk ⟨y⟩).toList = y := ByteArray.toList_mk y
  rw [e1, e2] at h
  rw [h]
/-- The answer to a name: its period, how many, its sets, the error. -/
def AnsOf (s : ByteArray) (P : Int) (n : Nat) (cs : List (List Sp)) (x : Int) : Prop :=
  (∃ i, i < 6 ∧ s = nm i ∧ P = bP i ∧ n = bN i ∧ cs = bC i ∧ x = 0) ∨ ((∀ j, j < 6 → (s.toList == (nm j).toList) = false) ∧ P = 0 ∧ n = 0 ∧ cs = [] ∧ x = 80)
theorem ans_all (s : ByteArray) : ∃ P n cs x, AnsOf s P n cs x := by
  classical
  by_cases h : ∃ i, i < 6 ∧ s = nm i
  · obtain ⟨i, hi, e⟩ := h
    exact ⟨_, _, _, _, .inl ⟨i, hi, e, rfl, rfl, rfl, rfl⟩⟩
  · refine ⟨_, _, _, _, .inr ⟨fun j hj => ?_, rfl, rfl, rfl, rfl⟩⟩
    cases q : s.toList == (nm j).toList
    · rfl
    · exact absurd ⟨j, hj, bytes_of_list (by simpa using q)⟩ h
theorem AnsOf.small {s : ByteArray} {P : Int} {n : Nat} {cs : List (List Sp)} {x : Int} (h : AnsOf s P n cs x) : n ≤ 4800 ∧ ∀ j, j < n → ∃ A B, cs[j]? = some [(A, B)] := by
  rcases h with ⟨i, hi, _, _, rfl, rfl, _⟩ | ⟨_, _, rfl, _, _⟩
  · exact ⟨(bN_bd i).2, fun j hj => ⟨_, _, bC_at i j hj⟩⟩
  · exact ⟨Nat.zero_le _, fun j hj => absurd hj (Nat.not_lt_zero _)⟩
theorem ref_any {s : ByteArray} {P : Int} {n : Nat} {cs : List (List Sp)} {x : Int} (h : AnsOf s P n cs x) (w : World) :
    Calls Tryd.prog 12 #[.string s] w fun e w' => ∃ (co : Option Addr) (cc : Nat) (oo : Option Addr) (oc : Nat), e = .returned (.tuple #[.agg #[.int .i64 P, .int .i64 (n : Int), .slice co n cc, .slice oo 0 oc], .int .i64 x]) ∧ Hid (CoAt w' co n cc cs) ∧ Hid (Below w.heap.size w w') := by
  rcases h with ⟨i, hi, rfl, rfl, rfl, rfl, rfl⟩ | ⟨hs, rfl, rfl, rfl, rfl⟩
  · refine (rform_hit i hi w).mono ?_
    rintro e w' ⟨co, cc, oo, oc, rfl, h1, h2⟩
    exact ⟨co, cc, oo, oc, rfl, Lib.hid h1.out.1, h2⟩
  · refine (rform_miss s hs w).mono ?_
    rintro e w' ⟨rfl, h⟩
    exact ⟨none, 0, none, 0, rfl, Lib.hid ⟨rfl, Nat.le_refl _, Nat.zero_le _, fun _ => ⟨rfl, rfl⟩, fun h => absurd h (Nat.lt_irrefl _)⟩, Lib.hid h⟩
/-- A calendar of which the first j names were asked. -/
def Asked (w : World) (c k g j : Nat) : Prop := 0 < g ∧ j ≤ 6 ∧ ∃ m st, Cd w m c k g st (j : Int) ∧ ∀ q, q < 6 → st q = decide (q < j)
theorem Asked.keep {w w' : World} {c k g j : Nat} (h : Asked w c k g j) (q : Below w.heap.size w w') : Asked w' c k g j := by
  obtain ⟨g0, j6, m, st, hC, hs⟩ := h
  exact ⟨g0, j6, m, st, hC.keep q, hs⟩
def nxt6 (j : Nat) : Nat := if j < 6 then j + 1 else 6
theorem nm_inj {i j : Nat} (hi : i < 6) (hj : j < 6) (h : nm i = nm j) : i = j := by
  rcases Nat.lt_trichotomy i j with q | q | q
  · have := nm_ne j i hj q; rw [h] at this; simp at this
  · exact q
  · have := nm_ne i j hi q; rw [h] at this; simp at this
theorem ask_any {s : ByteArray} {P : Int} {n : Nat} {cs : List (List Sp)} {x : Int} (h : AnsOf s P n cs x) (w : World) (c k g j : Nat) (hT : Tab w) (hA : Asked w c k g j) (hj : j < 6 → s = nm j) :
    Calls Tryd.prog 11 #[.pointer (some ⟨c, 0, none⟩), .string s] w fun e w' => ∃ (co : Option Addr) (cc : Nat) (oo : Option Addr) (oc : Nat), e = .returned (.tuple #[.agg #[.int .i64 P, .int .i64 (n : Int), .slice co n cc, .slice oo 0 oc], .int .i64 x]) ∧ Hid (CoAt w' co n cc cs) ∧ Hid (Asked w' c k g (nxt6 j)) ∧ Hid (But2 k g w w') := by
  obtain ⟨g0, j6, m, st, hC, hst⟩ := hA
  rcases h with ⟨i, hi, rfl, rfl, rfl, rfl, rfl⟩ | ⟨hs, rfl, rfl, rfl, rfl⟩
  · refine (form_hit i hi w m c k g st (j : Int) (by omega) (by omega) hT g0 (nm i) (fun j hj => nm_ne i j hi hj) (by simp) hC).mono ?_
    rintro e w' ⟨a3, c3, a4, c4, rfl, ho, hr, hq⟩
    obtain ⟨B, h1, h2, o, od⟩ := ho.out
    obtain ⟨m2, hm⟩ := hr.out w' ⟨Nat.le_refl _, fun _ _ _ => rfl⟩
    obtain ⟨ao, cx, e, z⟩ := o.vs
    cases e
    refine ⟨a3, c3, a4, c4, rfl, Lib.hid z, Lib.hid ?_, hq⟩
    by_cases q : j < 6
    · obtain rfl : i = j := nm_inj hi q (hj q)
      have e1 : st i = false := by rw [hst i hi]; simp
      unfold nxt6
      rw [if_pos q]
      refine ⟨g0, by omega, m2, upd st i, ?_, fun r hr => ?_⟩
      · have e2 : cntB st i (i : Int) = ((i + 1 : Nat) : Int) := by unfold cntB; rw [e1]; simp
        rw [← e2]; exact hm
      · unfold upd
        by_cases z : r = i
        · subst z; simp
        · rw [hst r hr]; simp [z]; omega
    · obtain rfl : j = 6 := by omega
      have e1 : st i = true := by rw [hst i hi]; simpa using hi
      unfold nxt6
      rw [if_neg q]
      refine ⟨g0, by omega, m2, upd st i, ?_, fun r hr => ?_⟩
      · have e2 : cntB st i ((6 : Nat) : Int) = ((6 : Nat) : Int) := by unfold cntB; rw [e1]; simp
        rw [← e2]; exact hm
      · rw [upd_same e1]; exact hst r hr
  · have q : ¬ j < 6 := fun q => by
      have := hs j q
      rw [hj q] at this
      simp at this
    obtain rfl : j = 6 := by omega
    refine (form_miss w m c k g st ((6 : Nat) : Int) s (fun j hj => ?_) hC).mono ?_
    · have := hs j hj
      cases z : (nm j).toList == s.toList
      · rfl
      · rw [beq_iff_eq] at z; rw [z] at this; simp at this
    · rintro e w' ⟨rfl, hb⟩
      refine ⟨none, 0, none, 0, rfl, Lib.hid ⟨rfl, Nat.le_refl _, Nat.zero_le _, fun _ => ⟨rfl, rfl⟩, fun h => absurd h (Nat.lt_irrefl _)⟩, Lib.hid ?_, Lib.hid (But2.of_below hb)⟩
      unfold nxt6
      rw [if_neg q]
      exact ⟨g0, j6, m, st, hC.keep hb, hst⟩
theorem rnames_any (w : World) : Calls Tryd.prog 10 #[] w fun e w' => e = .returned (.slice (some ⟨w.heap.size, 0, none⟩) 6 6) ∧ w' = w.alloc (.cells #[.string ⟨#[116, 105, 99, 107]⟩, .string ⟨#[100, 97, 121]⟩, .string ⟨#[119, 101, 101, 107]⟩, .string ⟨#[109, 111, 110, 116, 104]⟩, .string ⟨#[113, 117, 97, 114, 116, 101, 114]⟩, .string ⟨#[121, 101, 97, 114]⟩] 9) := by
  go_enter Tryd.func10, Tryd.ntmps10
  go_wp2
  go_returns
  exact ⟨rfl, rfl⟩
end Go.Proofs.YtacpcokmgahjaaaDoor
