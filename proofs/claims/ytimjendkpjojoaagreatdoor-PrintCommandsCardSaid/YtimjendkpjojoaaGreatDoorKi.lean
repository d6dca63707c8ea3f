/- Q2, Q0, Q8, Q14 in one. -/
import Derived.Test.YtimjendkpjojoaaGreatDoorKb
import Derived.Test.YtimjendkpjojoaaGreatDoorKc
import Derived.Lib.Strings
import Derived.Test.YtimjendkpjojoaaGreatDoorKh
import Derived.Test.YtimjendkpjojoaaGreatDoorKf
import Derived.Test.YtimjendkpjojoaaGreatDoorKg
namespace Go.Proofs.YtimjendkpjojoaaGreatDoor
set_option linter.unusedVariables false
set_option linter.unusedSimpArgs false
open Go.ChangeShapes Go.WideShapes Go.ChangeAt Go.RowKit

namespace Lx
/-! How many parts were begun. -/
theorem mark_parts (l : List Tk) (s : St) (m : List UInt8) : (mark l s m).parts = s.parts := take_parts l s _
theorem name_parts (l : List Tk) (s : St) : (name l s).2.parts = s.parts := take_parts l s _
theorem number_parts (l : List Tk) (s : St) : (number l s).2.parts = s.parts := take_parts l s _
/-- The parts stay below the limit. -/
def PI (s : St) : Prop := s.parts ≤ 2001 ∧ (s.wrong = 0 → s.parts ≤ 2000)
theorem PI.on {l : List Tk} {s t : St} (h : PI s) (o : On l s t) (p : t.parts = s.parts) : PI t := by
  refine ⟨by rw [p]; exact h.1, fun q => ?_⟩
  rw [p]
  refine h.2 ?_
  by_cases z : s.wrong = 0
  · exact z
  · exact absurd ((o.stay z).2.symm.trans q) z
theorem numsL_parts (l : List Tk) : ∀ (n : Nat) (b : List UInt8) (acc : List Int) (s : St), (numsL l n b acc s).2.2.parts = s.parts
  | 0, b, acc, s => rfl
  | n + 1, b, acc, s => (numsL_parts l n _ _ _).trans ((number_parts l _).trans (mark_parts l s b))
theorem argsL_PI (l : List Tk) (P : St → Ex × St) (hP : ∀ s, s.parts ≤ 2000 → PI (P s).2) : ∀ (n : Nat) (b : List UInt8) (acc : List Ex) (s : St), PI s → PI (argsL l P n b acc s).2.2
  | 0, b, acc, s, h => h
  | n + 1, b, acc, s, h => by
    have h1 := h.on (mark_on l s b) (mark_parts l s b)
    unfold argsL
    split
    · rename_i z; exact argsL_PI l P hP n _ _ _ (hP _ (h1.2 z))
    · exact argsL_PI l P hP n _ _ _ h1
theorem begun_name (l : List Tk) (z : Bool) (s : St) (h : s.parts ≤ 2000) : PI (name l (begun l z s)).2 := by
  refine ⟨by rw [name_parts]; show s.parts + 1 ≤ 2001; omega, fun q => ?_⟩
  rw [name_parts]
  show s.parts + 1 ≤ 2000
  have hb : (begun l z s).wrong = 0 := by
    by_cases y : (begun l z s).wrong = 0
    · exact y
    · exact absurd (((name_on l (begun l z s)).stay y).2.symm.trans q) y
  by_cases y : s.parts = 2000
  · exfalso
    unfold name take at q
    rw [if_pos hb] at q
    by_cases k : isNm l s.at_ = true
    · unfold begun at hb
      dsimp only at hb
      by_cases w : s.wrong = 0
      · rw [if_pos ⟨w, k, .inr y⟩] at hb; exact absurd hb (by decide)
      · rw [if_neg (fun e => w e.1)] at hb; exact w hb
    · rw [if_neg (by exact k)] at q; exact absurd (show (110 : Int) = 0 from q) (by decide)
  · omega
theorem part_PI (l : List Tk) : ∀ (k : Nat) (s : St), s.parts ≤ 2000 → PI (part l k s).2
  | 0, s, h => begun_name l true s h
  | k + 1, s, h => by
    have h1 := begun_name l false s h
    unfold part
    split
    · refine PI.on (l := l) ?_ (mark_on l _ _) (mark_parts l _ _)
      refine argsL_PI l _ (fun s q => part_PI l k s q) _ _ _ _ ?_
      exact PI.on (l := l) h1 (numsL_on l _ _ _ _) (numsL_parts l _ _ _ _)
    · exact h1
/-- What tokens may be. -/
def TkB (l : List Tk) : Prop := ∀ t ∈ l, (0 ≤ t.1 ∧ t.1 ≤ 255) ∧ t.2.1.length ≤ maxLen ∧ -9223372036854775808 ≤ t.2.2 ∧ t.2.2 ≤ 9223372036854775807
theorem tkAt_B {l : List Tk} (h : TkB l) (i : Nat) : (0 ≤ (tkAt l i).1 ∧ (tkAt l i).1 ≤ 255) ∧ (tkAt l i).2.1.length ≤ maxLen ∧ -9223372036854775808 ≤ (tkAt l i).2.2 ∧ (tkAt l i).2.2 ≤ 9223372036854775807 := by
  unfold tkAt
  rw [List.getD_eq_getElem?_getD]
  cases e : l[i]? with
  | none => exact ⟨⟨by decide, by decide⟩, Nat.zero_le _, by decide, by decide⟩
  | some t => exact h t (List.mem_of_getElem? e)
theorem take_B {l : List Tk} (h : TkB l) (s : St) (b : Bool) : (take l s b).1.2.1.length ≤ maxLen ∧ -9223372036854775808 ≤ (take l s b).1.2.2 ∧ (take l s b).1.2.2 ≤ 9223372036854775807 := by
  unfold take
  split
  · split
    · exact (tkAt_B h _).2
    · exact ⟨Nat.zero_le _, (by decide : (-9223372036854775808 : Int) ≤ 0), (by decide : (0 : Int) ≤ 9223372036854775807)⟩
  · exact ⟨Nat.zero_le _, (by decide : (-9223372036854775808 : Int) ≤ 0), (by decide : (0 : Int) ≤ 9223372036854775807)⟩
theorem number_B {l : List Tk} (h : TkB l) (s : St) : -9223372036854775808 ≤ (number l s).1 ∧ (number l s).1 ≤ 9223372036854775807 := (take_B h s _).2
theorem name_B {l : List Tk} (h : TkB l) (s : St) : (name l s).1.length ≤ maxLen := (take_B h s _).1
end Lx
/-! Tours. -/
mutual
def tour : Lx.Ex → Int → List (Pt × Int)
  | .mk o nm nu xs, d => ((⟨o, ⟨nm.toArray⟩, nu, xs.length⟩ : Pt), d) :: tours xs (d + 1)
def tours : List Lx.Ex → Int → List (Pt × Int)
  | [], _ => []
  | x :: r, d => tour x d ++ tours r d
end
theorem tours_flat : ∀ (xs : List Lx.Ex) (d : Int), tours xs d = flat (xs.map tour) d
  | [], d => by simp [tours, flat]
  | x :: r, d => by rw [tours, tours_flat r d]; simp [flat]
/-! Memory without some blocks. -/
/-- The world with the blocks of a kind alone. -/
def only (p : Nat → Bool) (w : World) : World := { w with heap := w.heap.mapIdx (fun i o => if p i = true then o else .cells #[] 0 (0, 0)) }
theorem only_cell {p : Nat → Bool} {w : World} {a : Addr} {v : Value} : (only p w).cell? a = some v ↔ p a.block = true ∧ w.cell? a = some v := by
  unfold World.cell? only
  simp only [Array.getElem?_mapIdx]
  cases h : w.heap[a.block]? with
  | none => simp
  | some o =>
    by_cases q : p a.block = true
    · simp [q]
    · simp [q]
/-- What is read in the one is read in the other. -/
def Sub (w w' : World) : Prop := ∀ a v, w.cell? a = some v → w'.cell? a = some v
theorem Sub.trans {a b c : World} (h : Sub a b) (k : Sub b c) : Sub a c := fun x v e => k x v (h x v e)
theorem only_sub {p p' : Nat → Bool} {w w' : World} (h : ∀ q, p q = true → q < w.heap.size → p' q = true ∧ w'.heap[q]? = w.heap[q]?) : Sub (only p w) (only p' w') := fun a v e => by
  obtain ⟨e1, e2⟩ := only_cell.1 e
  obtain ⟨k1, k2⟩ := h _ e1 (cell_here e2)
  refine only_cell.2 ⟨k1, ?_⟩
  unfold World.cell? at e2 ⊢
  rw [k2]; exact e2
theorem only_all {p : Nat → Bool} {w : World} : Sub (only p w) w := fun a v e => (only_cell.1 e).2
theorem NAt.sub {w w' : World} {ao : Option Addr} {n c : Nat} {l : List Int} (h : NAt w ao n c l) (k : Sub w w') : NAt w' ao n c l :=
  ⟨h.len, h.le, h.top, h.bare, fun h0 => by
    obtain ⟨b, p, e, hc⟩ := h.here h0
    exact ⟨b, p, e, fun i hi => ⟨k _ _ (hc i hi).1, (hc i hi).2⟩⟩⟩
theorem HdAt.sub {w w' : World} {p : Pt} {an aa : Option Addr} {nn nc ac : Nat} (h : HdAt w p an nn nc aa ac) (k : Sub w w') : HdAt w' p an nn nc aa ac := ⟨h.o1, h.o2, h.nmle, h.nums.sub k, h.le, h.top, h.bare⟩
theorem ExAt.sub {w w' : World} (k : Sub w w') : ∀ {n : Nat} {v : Value} {F : Tour}, ExAt w n v F → ExAt w' n v F
  | 0, _, _, h => h
  | n + 1, v, F, h => by
    obtain ⟨p, an, nn, nc, aa, ac, Fs, e1, hh, e2, e3, hc⟩ := h
    refine ⟨p, an, nn, nc, aa, ac, Fs, e1, hh.sub k, e2, e3, fun h0 => ?_⟩
    obtain ⟨b, q, e, hx⟩ := hc h0
    refine ⟨b, q, e, fun i hi => ?_⟩
    obtain ⟨x0, x1, x2, x3, c0, c1, c2, c3, hr⟩ := hx i hi
    exact ⟨x0, x1, x2, x3, k _ _ c0, k _ _ c1, k _ _ c2, k _ _ c3, hr.sub k⟩
/-- The blocks from a number on. -/
def frB (B : Nat) : Nat → Bool := fun q => decide (B ≤ q)
theorem frB_le {B q : Nat} (h : B ≤ q) : frB B q = true := decide_eq_true h
theorem le_frB {B q : Nat} (h : frB B q = true) : B ≤ q := of_decide_eq_true h
theorem ex_leaf' (p : World) (w : List UInt8) (h : w.length ≤ maxLen) : ExAt p 1 (.agg #[.int .u8 0, .string ⟨w.toArray⟩, .slice none 0 0, .slice none 0 0]) (tour (Lx.leaf w)) := by
  have e : tour (Lx.leaf w) = fun d => [((⟨0, ⟨w.toArray⟩, [], 0⟩ : Pt), d)] := by funext d; simp [Lx.leaf, tour, tours]
  rw [e]
  exact ex_name p 0 ⟨w.toArray⟩ (by decide) (by decide) (by rw [Lib.size_eq]; simpa using h)
theorem nuN_eq (i : Nat) (h : i < 13) : nN i = (Lx.nuN i : Int) := by
  match i, h with
  | 0, _ => rfl
  | 1, _ => rfl
  | 2, _ => rfl
  | 3, _ => rfl
  | 4, _ => rfl
  | 5, _ => rfl
  | 6, _ => rfl
  | 7, _ => rfl
  | 8, _ => rfl
  | 9, _ => rfl
  | 10, _ => rfl
  | 11, _ => rfl
  | 12, _ => rfl
theorem arN_eq (i : Nat) (h : i < 13) : aN i = (Lx.arN i : Int) := by
  match i, h with
  | 0, _ => rfl
  | 1, _ => rfl
  | 2, _ => rfl
  | 3, _ => rfl
  | 4, _ => rfl
  | 5, _ => rfl
  | 6, _ => rfl
  | 7, _ => rfl
  | 8, _ => rfl
  | 9, _ => rfl
  | 10, _ => rfl
  | 11, _ => rfl
  | 12, _ => rfl
theorem nuN_le (i : Nat) (h : i < 13) : Lx.nuN i ≤ 3 ∧ Lx.arN i ≤ 2 := by
  match i, h with
  | 0, _ => exact ⟨by decide, by decide⟩
  | 1, _ => exact ⟨by decide, by decide⟩
  | 2, _ => exact ⟨by decide, by decide⟩
  | 3, _ => exact ⟨by decide, by decide⟩
  | 4, _ => exact ⟨by decide, by decide⟩
  | 5, _ => exact ⟨by decide, by decide⟩
  | 6, _ => exact ⟨by decide, by decide⟩
  | 7, _ => exact ⟨by decide, by decide⟩
  | 8, _ => exact ⟨by decide, by decide⟩
  | 9, _ => exact ⟨by decide, by decide⟩
  | 10, _ => exact ⟨by decide, by decide⟩
  | 11, _ => exact ⟨by decide, by decide⟩
  | 12, _ => exact ⟨by decide, by decide⟩
theorem opN_lt (w : List UInt8) : Lx.opN w < 13 := by
  have : ∀ (L : List (List UInt8)) (i : Nat), Lx.opGo L i w = 0 ∨ Lx.opGo L i w < i + L.length := by
    intro L
    induction L with
    | nil => intro i; exact .inl rfl
    | cons x r ih =>
      intro i
      unfold Lx.opGo
      split
      · exact .inr (by simp)
      · rcases ih (i + 1) with h | h
        · exact .inl h
        · exact .inr (by simp; omega)
  rcases this Lx.opW 1 with h | h
  · unfold Lx.opN; omega
  · have e : Lx.opW.length = 12 := rfl
    unfold Lx.opN; omega
theorem tkb_nil : Lx.TkB [] := fun t ht => by cases ht
theorem tkb_cons {t : Lx.Tk} {l : List Lx.Tk} (h1 : (0 ≤ t.1 ∧ t.1 ≤ 255) ∧ t.2.1.length ≤ 1000 ∧ -9223372036854775808 ≤ t.2.2 ∧ t.2.2 ≤ 9223372036854775807) (h2 : Lx.TkB l) : Lx.TkB (t :: l) := fun x hx => by
  rcases List.mem_cons.1 hx with rfl | h
  · exact ⟨h1.1, Nat.le_trans h1.2.1 (by decide), h1.2.2⟩
  · exact h2 x h
theorem tkb_app {l k : List Lx.Tk} (h : Lx.TkB l) (q : Lx.TkB k) : Lx.TkB (l ++ k) := fun t ht => by
  rcases List.mem_append.1 ht with e | e
  · exact h t e
  · exact q t e
namespace Lx
/-- What shapes are like. -/
def shOk (x : List UInt8) : Bool := decide (x.length ≤ 4) && ((List.range x.length).all fun i => (decide (x.getD i 0 = 110) || decide (x.getD i 0 = 105) || decide (x.getD i 0 = 114) || decide (x.getD i 0 = 61)) || (decide (x.getD i 0 = 101) && decide (i + 1 = x.length)))
theorem shapes_ok : ∀ p ∈ shapes, shOk p.2 = true := by decide
theorem shGo_mem : ∀ (L : List (List UInt8 × List UInt8)) (w x : List UInt8), shGo L w = some x → ∃ p ∈ L, p.2 = x
  | [], w, x, h => by cases h
  | p :: r, w, x, h => by
    unfold shGo at h
    split at h
    · exact ⟨p, List.mem_cons_self, Option.some.inj h⟩
    · obtain ⟨q, h1, h2⟩ := shGo_mem r w x h
      exact ⟨q, List.mem_cons_of_mem _ h1, h2⟩
theorem shape_ok {w x : List UInt8} (h : shape w = some x) : x.length ≤ 4 ∧ ∀ i (hi : i < x.length), (x[i] = 110 ∨ x[i] = 105 ∨ x[i] = 114 ∨ x[i] = 61) ∨ (x[i] = 101 ∧ i + 1 = x.length) := by
  obtain ⟨p, h1, rfl⟩ := shGo_mem shapes w x h
  have := shapes_ok p h1
  unfold shOk at this
  simp only [Bool.and_eq_true, decide_eq_true_eq, List.all_eq_true, List.mem_range, Bool.or_eq_true] at this
  refine ⟨this.1, fun i hi => ?_⟩
  have k := this.2 i hi
  rw [List.getD_eq_getElem?_getD, List.getElem?_eq_getElem hi] at k
  simp only [Option.getD_some] at k
  rcases k with ((k | k) | k) | k
  · rcases k with k | k
    · exact .inl (.inl k)
    · exact .inl (.inr (.inl k))
  · exact .inl (.inr (.inr (.inl k)))
  · exact .inl (.inr (.inr (.inr k)))
  · exact .inr k
theorem endE_parts (l : List Tk) (s : St) : (endE l s).2.parts = s.parts := by
  unfold endE; split
  · rfl
  · exact number_parts l s
theorem span_parts (l : List Tk) (s : St) : (span l s).2.parts = s.parts :=
  (mark_parts l _ _).trans ((endE_parts l _).trans ((mark_parts l _ _).trans ((endE_parts l _).trans (mark_parts l s _))))
end Lx

theorem trees_of : ∀ (Fs : List Tour), (∀ F ∈ Fs, ∃ x : Lx.Ex, F = tour x) → ∃ xs : List Lx.Ex, Fs = xs.map tour
  | [], _ => ⟨[], rfl⟩
  | F :: r, h => by
    obtain ⟨x, rfl⟩ := h F List.mem_cons_self
    obtain ⟨xs, rfl⟩ := trees_of r (fun G hG => h G (List.mem_cons_of_mem _ hG))
    exact ⟨x :: xs, rfl⟩
theorem tour_ex {w : World} : ∀ (n : Nat) (v : Value) (F : Tour), ExAt w n v F → ∃ x : Lx.Ex, F = tour x
  | 0, _, _, h => h.elim
  | n + 1, v, F, h => by
    obtain ⟨p, an, nn, nc, aa, ac, Fs, e1, hh, e2, e3, hc⟩ := h
    obtain ⟨xs, rfl⟩ := trees_of Fs (fun G hG => by
      obtain ⟨i, hi, rfl⟩ := List.getElem_of_mem hG
      obtain ⟨b, q, e, hx⟩ := hc (by omega)
      obtain ⟨x0, x1, x2, x3, _, _, _, _, hr⟩ := hx i hi
      exact tour_ex n _ _ hr)
    refine ⟨.mk p.op p.nm.data.toList p.nums xs, ?_⟩
    rw [e3]
    funext d
    rw [tour, tours_flat]
    obtain ⟨op, nm, nu, k⟩ := p
    have e2 : (xs.map tour).length = k := e2
    rw [List.length_map] at e2
    subst e2
    rfl
/-- What the parts of a tree in memory are. -/
def Fine (p : Pt) : Prop := 0 ≤ p.op ∧ p.nm.size ≤ maxLen ∧ ∀ z ∈ p.nums, -9223372036854775808 ≤ z ∧ z ≤ 9223372036854775807
theorem hd_fine {w : World} {p : Pt} {an aa : Option Addr} {nn nc ac : Nat} (h : HdAt w p an nn nc aa ac) : Fine p := by
  refine ⟨h.o1, h.nmle, fun z hz => ?_⟩
  obtain ⟨i, hi, rfl⟩ := List.getElem_of_mem hz
  obtain ⟨b, q, _, hc⟩ := h.nums.here (by have := h.nums.len; omega)
  exact (hc i hi).2
theorem ex_fine {w : World} : ∀ {n : Nat} {v : Value} {F : Tour}, ExAt w n v F → ∀ d, ∀ y ∈ F d, Fine y.1
  | 0, _, _, h, _, _, _ => h.elim
  | n + 1, v, F, h, d, y, hy => by
    obtain ⟨p, an, nn, nc, aa, ac, Fs, e1, hh, e2, rfl, hc⟩ := h
    rcases List.mem_cons.1 hy with rfl | hy
    · exact hd_fine hh
    · obtain ⟨l, hl, hy⟩ := List.mem_flatten.1 hy
      obtain ⟨G, hG, rfl⟩ := List.mem_map.1 hl
      obtain ⟨i, hi, rfl⟩ := List.getElem_of_mem hG
      obtain ⟨b, q, e, hx⟩ := hc (by omega)
      obtain ⟨x0, x1, x2, x3, _, _, _, _, hr⟩ := hx i hi
      exact ex_fine hr _ y hy
theorem tours_mem {xs : List Lx.Ex} {x : Lx.Ex} (h : x ∈ xs) (d : Int) {y : Pt × Int} (hy : y ∈ tour x d) : y ∈ tours xs d := by
  rw [tours_flat]
  exact List.mem_flatten.2 ⟨tour x d, List.mem_map.2 ⟨tour x, List.mem_map.2 ⟨x, h, rfl⟩, rfl⟩, hy⟩
theorem ok_of : ∀ (k : Nat) (x : Lx.Ex) (d : Int), (∀ y ∈ tour x d, y.2 + 1 ≤ d + k ∧ FitP y.1 ∧ Fine y.1) → Lx.Ok k x
  | 0, .mk op nm nu xs, d, h => by
    have := (h _ (by rw [tour]; exact List.mem_cons_self)).1
    dsimp only at this
    omega
  | k + 1, .mk op nm nu xs, d, h => by
    obtain ⟨_, f, g⟩ := h (⟨op, ⟨nm.toArray⟩, nu, xs.length⟩, d) (by rw [tour]; exact List.mem_cons_self)
    have f1 : op ≤ 12 := f.op
    have f2 : (nu.length : Int) = nN op.toNat := f.nums
    have f3 : (xs.length : Int) = aN op.toNat := f.args
    have f4 : if op = 0 then RName ⟨nm.toArray⟩ else (⟨nm.toArray⟩ : ByteArray) = ⟨#[]⟩ := f.name
    have g1 : 0 ≤ op := g.1
    by_cases z : op = 0
    · subst z
      refine .inl ⟨rfl, ?_, ?_⟩
      · have f2 : (nu.length : Int) = 0 := f2
        exact List.eq_nil_of_length_eq_zero (by omega)
      · have f3 : (xs.length : Int) = 0 := f3
        exact List.eq_nil_of_length_eq_zero (by omega)
    · rw [if_neg z] at f4
      rw [nuN_eq _ (by omega)] at f2
      rw [arN_eq _ (by omega)] at f3
      refine .inr ⟨by omega, f1, ?_, by omega, by omega, fun x hx => ok_of k x (d + 1) (fun y hy => ?_)⟩
      · simpa using f4
      · have := h y (by rw [tour]; exact List.mem_cons_of_mem _ (tours_mem hx _ hy))
        exact ⟨by omega, this.2⟩
mutual
theorem cnt_len : ∀ (x : Lx.Ex) (d : Int), (tour x d).length = Lx.cnt x
  | .mk op nm nu xs, d => by rw [tour, Lx.cnt, List.length_cons, cnts_len xs]; omega
theorem cnts_len : ∀ (xs : List Lx.Ex) (d : Int), (tours xs d).length = Lx.cnts xs
  | [], d => by rw [tours, Lx.cnts]; rfl
  | x :: r, d => by rw [tours, Lx.cnts, List.length_append, cnt_len x, cnts_len r]
end
theorem right_ok {x : Lx.Ex} (h : RightL (tour x 1)) (hf : ∀ y ∈ tour x 1, Fine y.1) : Lx.Ok 40 x ∧ Lx.cnt x ≤ 2000 :=
  ⟨ok_of 40 x 1 (fun y hy => ⟨by have := (h.2 y hy).1; omega, (h.2 y hy).2, hf y hy⟩), by rw [← cnt_len x 1]; exact h.1⟩
/-! How many words, and which. -/
theorem nW_len (b : List UInt8) : ∀ nu : List Int, ∀ b, (Lx.nW b nu).length = 2 * nu.length
  | [], b => rfl
  | z :: r, b => by simp only [Lx.nW, List.length_cons, nW_len [] r]; omega
theorem aW_len : ∀ (k : Nat) (xs : List Lx.Ex) (b : List UInt8), (∀ x ∈ xs, (Lx.wordsX x).length + 1 ≤ 10 * Lx.cnt x) → (Lx.aW b xs).length ≤ 10 * Lx.cnts xs
  | _, [], b, _ => by rw [Lx.aW, Lx.cnts]; exact Nat.le_refl _
  | k, x :: r, b, h => by
    have h1 := h x List.mem_cons_self
    have h2 := aW_len k r [44] (fun y hy => h y (List.mem_cons_of_mem _ hy))
    rw [Lx.aW, Lx.cnts, List.length_cons, List.length_append]; omega
theorem words_len : ∀ (k : Nat) (x : Lx.Ex), Lx.Ok k x → (Lx.wordsX x).length + 1 ≤ 10 * Lx.cnt x
  | 0, _, h => h.elim
  | k + 1, .mk op nm nu xs, h => by
    rcases h with ⟨rfl, rfl, rfl⟩ | ⟨h1, h2, rfl, h3, h4, h5⟩
    · rw [Lx.wordsX, if_pos rfl, Lx.cnt, Lx.cnts]; show 1 + 1 ≤ 10 * (1 + 0); decide
    · have hz : ¬ op = 0 := by omega
      have hn := nuN_le op.toNat (by omega)
      have := aW_len k xs (Lx.sepN [40] nu) (fun x hx => words_len k x (h5 x hx))
      rw [Lx.wordsX, if_neg hz, Lx.cnt]
      simp only [List.length_cons, List.length_append, List.length_nil, nW_len []]
      omega
theorem op_short (i : Nat) : (Lx.opW.getD i []).length ≤ maxLen := by
  rw [List.getD_eq_getElem?_getD]
  cases e : Lx.opW[i]? with
  | none => exact Nat.zero_le _
  | some t =>
    have := List.mem_of_getElem? e
    have h : ∀ t ∈ Lx.opW, t.length ≤ 7 := by decide
    have := h t this
    show t.length ≤ _
    unfold maxLen; omega
theorem tkb_one {k : Int} {b : List UInt8} {z : Int} (h1 : 0 ≤ k ∧ k ≤ 255) (h2 : b.length ≤ maxLen) (h3 : -9223372036854775808 ≤ z ∧ z ≤ 9223372036854775807) {l : List Lx.Tk} (q : Lx.TkB l) : Lx.TkB ((k, b, z) :: l) := fun y hy => by
  rcases List.mem_cons.1 hy with rfl | e
  · exact ⟨h1, h2, h3⟩
  · exact q y e
theorem tkb_nW : ∀ (nu : List Int) (b : List UInt8), b.length ≤ 1 → (∀ z ∈ nu, -9223372036854775808 ≤ z ∧ z ≤ 9223372036854775807) → Lx.TkB (Lx.nW b nu)
  | [], b, _, _ => tkb_nil
  | z :: r, b, hb, h => tkb_one (by decide) (by unfold maxLen; omega) (by decide) (tkb_one (by decide) (Nat.zero_le _) (h z List.mem_cons_self) (tkb_nW r [44] (by decide) (fun y hy => h y (List.mem_cons_of_mem _ hy))))
theorem tkb_aW : ∀ (xs : List Lx.Ex) (b : List UInt8), b.length ≤ 1 → (∀ x ∈ xs, Lx.TkB (Lx.wordsX x)) → Lx.TkB (Lx.aW b xs)
  | [], b, _, _ => by rw [Lx.aW]; exact tkb_nil
  | x :: r, b, hb, h => by
    rw [Lx.aW]
    exact tkb_one (by decide) (by unfold maxLen; omega) (by decide) (tkb_app (h x List.mem_cons_self) (tkb_aW r [44] (by decide) (fun y hy => h y (List.mem_cons_of_mem _ hy))))
theorem tkb_words : ∀ (k : Nat) (x : Lx.Ex) (d : Int), Lx.Ok k x → (∀ y ∈ tour x d, Fine y.1) → Lx.TkB (Lx.wordsX x)
  | 0, _, _, h, _ => h.elim
  | k + 1, .mk op nm nu xs, d, h, hf => by
    obtain ⟨_, g2, g3⟩ := hf (⟨op, ⟨nm.toArray⟩, nu, xs.length⟩, d) (by rw [tour]; exact List.mem_cons_self)
    have g2 : (⟨nm.toArray⟩ : ByteArray).size ≤ maxLen := g2
    have g3 : ∀ z ∈ nu, -9223372036854775808 ≤ z ∧ z ≤ 9223372036854775807 := g3
    have c0 : (-9223372036854775808 : Int) ≤ 0 ∧ (0 : Int) ≤ 9223372036854775807 := by decide
    rw [Lx.wordsX]
    split
    · exact tkb_one (by decide) (by rw [Lib.size_eq] at g2; simpa using g2) c0 tkb_nil
    · rename_i hz
      rcases h with ⟨z, _, _⟩ | ⟨_, _, _, _, _, h5⟩
      · exact absurd z hz
      · refine tkb_one (by decide) (op_short _) c0 (tkb_app (tkb_nW nu [40] (by decide) g3) (tkb_app (tkb_aW xs _ ?_ (fun x hx => tkb_words k x (d + 1) (h5 x hx) (fun y hy => hf y (by rw [tour]; exact List.mem_cons_of_mem _ (tours_mem hx _ hy))))) (tkb_one (by decide) (by decide) c0 tkb_nil)))
        unfold Lx.sepN; split <;> decide
/-! The words, one after another. -/
/-- Words with marks between. -/
def bodW (its : List (List Lx.Tk)) : List Lx.Tk := ((its.map (fun i => ((4, [44], 0) : Lx.Tk) :: i)).flatten).drop 1
theorem bod_nil : bodW [] = [] := rfl
theorem bod_one (i : List Lx.Tk) : bodW [i] = i := by simp [bodW]
theorem bod_snoc {its : List (List Lx.Tk)} (h : its ≠ []) (i : List Lx.Tk) : bodW (its ++ [i]) = bodW its ++ ((4, [44], 0) :: i) := by
  cases its with
  | nil => exact absurd rfl h
  | cons a r => simp [bodW]
def itemsX (nu : List Int) (xs : List Lx.Ex) : List (List Lx.Tk) := nu.map (fun z => [((2, [], z) : Lx.Tk)]) ++ xs.map Lx.wordsX
theorem nW_flat : ∀ nu : List Int, Lx.nW [44] nu = ((nu.map (fun z => [((2, [], z) : Lx.Tk)])).map (fun i => ((4, [44], 0) : Lx.Tk) :: i)).flatten
  | [] => rfl
  | z :: r => by rw [Lx.nW, nW_flat r]; rfl
theorem aW_flat : ∀ xs : List Lx.Ex, Lx.aW [44] xs = ((xs.map Lx.wordsX).map (fun i => ((4, [44], 0) : Lx.Tk) :: i)).flatten
  | [] => by rw [Lx.aW]; rfl
  | x :: r => by rw [Lx.aW, aW_flat r]; rfl
theorem words_bod (nu : List Int) (xs : List Lx.Ex) (h : xs ≠ []) : Lx.nW [40] nu ++ Lx.aW (Lx.sepN [40] nu) xs = (4, [40], 0) :: bodW (itemsX nu xs) := by
  cases nu with
  | nil =>
    cases xs with
    | nil => exact absurd rfl h
    | cons x r =>
      show Lx.aW [40] (x :: r) = _
      rw [Lx.aW, aW_flat]
      simp [itemsX, bodW]
  | cons z r =>
    show (4, [40], 0) :: (2, [], z) :: Lx.nW [44] r ++ Lx.aW [44] xs = _
    rw [aW_flat, nW_flat]
    simp [itemsX, bodW]
mutual
theorem tour_inj : ∀ (x y : Lx.Ex) (d : Int) (A B : List (Pt × Int)), tour x d ++ A = tour y d ++ B → x = y ∧ A = B
  | .mk o nm nu xs, .mk o' nm' nu' ys, d, A, B, h => by
    rw [tour, tour, List.cons_append, List.cons_append] at h
    obtain ⟨h1, h2⟩ := List.cons.inj h
    have h3 := Pt.mk.inj (Prod.mk.inj h1).1
    obtain ⟨rfl, e2, rfl, e4⟩ := h3
    have e2 := congrArg (fun b => b.data.toList) e2
    have e2 : nm = nm' := by simpa using e2
    subst e2
    obtain ⟨rfl, q⟩ := tours_inj xs ys (d + 1) A B e4 h2
    exact ⟨rfl, q⟩
theorem tours_inj : ∀ (xs ys : List Lx.Ex) (d : Int) (A B : List (Pt × Int)), xs.length = ys.length → tours xs d ++ A = tours ys d ++ B → xs = ys ∧ A = B
  | [], [], d, A, B, _, h => by rw [tours] at h; exact ⟨rfl, h⟩
  | [], y :: r, d, A, B, e, h => by cases e
  | x :: r, [], d, A, B, e, h => by cases e
  | x :: r, y :: r', d, A, B, e, h => by
    rw [tours, tours, List.append_assoc, List.append_assoc] at h
    obtain ⟨rfl, h9⟩ := tour_inj x y d _ _ h
    obtain ⟨rfl, h8⟩ := tours_inj r _ d A B (by simpa using e) h9
    exact ⟨rfl, h8⟩
end
theorem ex_kids {w : World} {n : Nat} {v : Value} {op : Int} {nm : List UInt8} {nu : List Int} {xs : List Lx.Ex} (h : ExAt w n v (tour (.mk op nm nu xs))) : ∃ (m : Nat) (an : Option Addr) (nn nc : Nat) (aa : Option Addr) (ac : Nat), n = m + 1 ∧ v = .agg #[.int .u8 op, .string ⟨nm.toArray⟩, .slice an nn nc, .slice aa xs.length ac] ∧ HdAt w ⟨op, ⟨nm.toArray⟩, nu, xs.length⟩ an nn nc aa ac ∧
    (0 < xs.length → ∃ b q, aa = some ⟨b, q, none⟩ ∧ ∀ i (h : i < xs.length), ∃ x0 x1 x2 x3, w.cell? ⟨b, q + i * 4, none⟩ = some x0 ∧ w.cell? ⟨b, q + i * 4 + 1, none⟩ = some x1 ∧ w.cell? ⟨b, q + i * 4 + 2, none⟩ = some x2 ∧ w.cell? ⟨b, q + i * 4 + 3, none⟩ = some x3 ∧ ExAt w m (.agg #[x0, x1, x2, x3]) (tour xs[i])) := by
  match n, h with
  | m + 1, h =>
    obtain ⟨p, an, nn, nc, aa, ac, Fs, e1, hh, e2, e3, hc⟩ := h
    obtain ⟨ys, rfl⟩ := trees_of Fs (fun G hG => by
      obtain ⟨i, hi, rfl⟩ := List.getElem_of_mem hG
      obtain ⟨b, q, e, hx⟩ := hc (by omega)
      obtain ⟨x0, x1, x2, x3, _, _, _, _, hr⟩ := hx i hi
      exact tour_ex m _ _ hr)
    have e4 := congrFun e3 0
    rw [tour] at e4
    obtain ⟨h1, h2⟩ := List.cons.inj e4
    have h1 : (⟨op, ⟨nm.toArray⟩, nu, xs.length⟩ : Pt) = p := (Prod.mk.inj h1).1
    subst h1
    rw [← tours_flat] at h2
    have e2 : xs.length = ys.length := by simpa using e2.symm
    obtain ⟨rfl, _⟩ := tours_inj xs ys (0 + 1) [] [] e2 (by rw [h2])
    refine ⟨m, an, nn, nc, aa, ac, rfl, e1, hh, fun h0 => ?_⟩
    obtain ⟨b, q, e, hx⟩ := hc h0
    refine ⟨b, q, e, fun i hi => ?_⟩
    obtain ⟨x0, x1, x2, x3, c0, c1, c2, c3, hr⟩ := hx i (by simpa using hi)
    exact ⟨x0, x1, x2, x3, c0, c1, c2, c3, by simpa using hr⟩
end Go.Proofs.YtimjendkpjojoaaGreatDoor
