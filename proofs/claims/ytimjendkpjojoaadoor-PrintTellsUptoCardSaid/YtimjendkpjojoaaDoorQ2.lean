/- Trees and their tours; memory without some blocks. -/
import Derived.Test.YtimjendkpjojoaaDoorQ1
import Derived.Test.YtimjendkpjojoaaDoorLai
import Derived.Lib.Strings
import Derived.Test.YtimjendkpjojoaaDoorE13
namespace Go.Proofs.YtimjendkpjojoaaDoor
set_option linter.unusedVariables false
set_option linter.unusedSimpArgs false
open Go.ChangeShapes Go.WideShapes Go.ChangeAt Go.RowKit

namespace Lx
/-! How many parts were begun. -/
theorem mark_parts (l : List Tk) (s : St) (m : List UInt8) : (mark l s m).parts = s.parts := take_parts l s _
theorem name_parts (l : List Tk) (s : St) : (name l s).2.parts = s.parts := take_parts l s _
theorem number_parts (l : List Tk) (s : St) : (number l s).2.parts = s.parts := take_parts l s _
/-- The parts stay below the limit. -/
def PI (s : St) : Prop := s.parts ≤ 2001 ∧ (s.wrong = 0 → s.parts ≤ 2000)
theorem PI.on {l : List Tk} {s t : St} (h : PI s) (o : On l s t) (p : t.parts = s.parts) : PI t := by
  refine ⟨by rw [p]; exact h.1, fun q => ?_⟩
  rw [p]
  refine h.2 ?_
  by_cases z : s.wrong = 0
  · exact z
  · exact absurd ((o.stay z).2.symm.trans q) z
theorem numsL_parts (l : List Tk) : ∀ (n : Nat) (b : List UInt8) (acc : List Int) (s : St), (numsL l n b acc s).2.2.parts = s.parts
  | 0, b, acc, s => rfl
  | n + 1, b, acc, s => (numsL_parts l n _ _ _).trans ((number_parts l _).trans (mark_parts l s b))
theorem argsL_PI (l : List Tk) (P : St → Ex × St) (hP : ∀ s, s.parts ≤ 2000 → PI (P s).2) : ∀ (n : Nat) (b : List UInt8) (acc : List Ex) (s : St), PI s → PI (argsL l P n b acc s).2.2
  | 0, b, acc, s, h => h
  | n + 1, b, acc, s, h => by
    have h1 := h.on (mark_on l s b) (mark_parts l s b)
    unfold argsL
    split
    · rename_i z; exact argsL_PI l P hP n _ _ _ (hP _ (h1.2 z))
    · exact argsL_PI l P hP n _ _ _ h1
theorem begun_name (l : List Tk) (z : Bool) (s : St) (h : s.parts ≤ 2000) : PI (name l (begun l z s)).2 := by
  refine ⟨by rw [name_parts]; show s.parts + 1 ≤ 2001; omega, fun q => ?_⟩
  rw [name_parts]
  show s.parts + 1 ≤ 2000
  have hb : (begun l z s).wrong = 0 := by
    by_cases y : (begun l z s).wrong = 0
    · exact y
    · exact absurd (((name_on l (begun l z s)).stay y).2.symm.trans q) y
  by_cases y : s.parts = 2000
  · exfalso
    unfold name take at q
    rw [if_pos hb] at q
    by_cases k : isNm l s.at_ = true
    · unfold begun at hb
      dsimp only at hb
      by_cases w : s.wrong = 0
      · rw [if_pos ⟨w, k, .inr y⟩] at hb; exact absurd hb (by decide)
      · rw [if_neg (fun e => w e.1)] at hb; exact w hb
    · rw [if_neg (by exact k)] at q; exact absurd (show (110 : Int) = 0 from q) (by decide)
  · omega
theorem part_PI (l : List Tk) : ∀ (k : Nat) (s : St), s.parts ≤ 2000 → PI (part l k s).2
  | 0, s, h => begun_name l true s h
  | k + 1, s, h => by
    have h1 := begun_name l false s h
    unfold part
    split
    · refine PI.on (l := l) ?_ (mark_on l _ _) (mark_parts l _ _)
      refine argsL_PI l _ (fun s q => part_PI l k s q) _ _ _ _ ?_
      exact PI.on (l := l) h1 (numsL_on l _ _ _ _) (numsL_parts l _ _ _ _)
    · exact h1
/-- What tokens may be. -/
def TkB (l : List Tk) : Prop := ∀ t ∈ l, (0 ≤ t.1 ∧ t.1 ≤ 255) ∧ t.2.1.length ≤ maxLen ∧ -9223372036854775808 ≤ t.2.2 ∧ t.2.2 ≤ 9223372036854775807
theorem tkAt_B {l : List Tk} (h : TkB l) (i : Nat) : (0 ≤ (tkAt l i).1 ∧ (tkAt l i).1 ≤ 255) ∧ (tkAt l i).2.1.length ≤ maxLen ∧ -9223372036854775808 ≤ (tkAt l i).2.2 ∧ (tkAt l i).2.2 ≤ 9223372036854775807 := by
  unfold tkAt
  rw [List.getD_eq_getElem?_getD]
  cases e : l[i]? with
  | none => exact ⟨⟨by decide, by decide⟩, Nat.zero_le _, by decide, by decide⟩
  | some t => exact h t (List.mem_of_getElem? e)
theorem take_B {l : List Tk} (h : TkB l) (s : St) (b : Bool) : (take l s b).1.2.1.length ≤ maxLen ∧ -9223372036854775808 ≤ (take l s b).1.2.2 ∧ (take l s b).1.2.2 ≤ 9223372036854775807 := by
  unfold take
  split
  · split
    · exact (tkAt_B h _).2
    · exact ⟨Nat.zero_le _, (by decide : (-9223372036854775808 : Int) ≤ 0), (by decide : (0 : Int) ≤ 9223372036854775807)⟩
  · exact ⟨Nat.zero_le _, (by decide : (-9223372036854775808 : Int) ≤ 0), (by decide : (0 : Int) ≤ 9223372036854775807)⟩
theorem number_B {l : List Tk} (h : TkB l) (s : St) : -9223372036854775808 ≤ (number l s).1 ∧ (number l s).1 ≤ 9223372036854775807 := (take_B h s _).2
theorem name_B {l : List Tk} (h : TkB l) (s : St) : (name l s).1.length ≤ maxLen := (take_B h s _).1
end Lx
/-! Tours. -/
mutual
def tour : Lx.Ex → Int → List (Pt × Int)
  | .mk o nm nu xs, d => ((⟨o, ⟨nm.toArray⟩, nu, xs.length⟩ : Pt), d) :: tours xs (d + 1)
def tours : List Lx.Ex → Int → List (Pt × Int)
  | [], _ => []
  | x :: r, d => tour x d ++ tours r d
end
theorem tours_flat : ∀ (xs : List Lx.Ex) (d : Int), tours xs d = flat (xs.map tour) d
  | [], d => by simp [tours, flat]
  | x :: r, d => by rw [tours, tours_flat r d]; simp [flat]
/-! Memory without some blocks. -/
/-- The world with the blocks of a kind alone. -/
def only (p : Nat → Bool) (w : World) : World := { w with heap := w.heap.mapIdx (fun i o => if p i = true then o else .cells #[] 0 (0, 0)) }
theorem only_cell {p : Nat → Bool} {w : World} {a : Addr} {v : Value} : (only p w).cell? a = some v ↔ p a.block = true ∧ w.cell? a = some v := by
  unfold World.cell? only
  simp only [Array.getElem?_mapIdx]
  cases h : w.heap[a.block]? with
  | none => simp
  | some o =>
    by_cases q : p a.block = true
    · simp [q]
    · simp [q]
/-- What is read in the one is read in the other. -/
def Sub (w w' : World) : Prop := ∀ a v, w.cell? a = some v → w'.cell? a = some v
theorem Sub.trans {a b c : World} (h : Sub a b) (k : Sub b c) : Sub a c := fun x v e => k x v (h x v e)
theorem only_sub {p p' : Nat → Bool} {w w' : World} (h : ∀ q, p q = true → q < w.heap.size → p' q = true ∧ w'.heap[q]? = w.heap[q]?) : Sub (only p w) (only p' w') := fun a v e => by
  obtain ⟨e1, e2⟩ := only_cell.1 e
  obtain ⟨k1, k2⟩ := h _ e1 (cell_here e2)
  refine only_cell.2 ⟨k1, ?_⟩
  unfold World.cell? at e2 ⊢
  rw [k2]; exact e2
theorem only_all {p : Nat → Bool} {w : World} : Sub (only p w) w := fun a v e => (only_cell.1 e).2
theorem NAt.sub {w w' : World} {ao : Option Addr} {n c : Nat} {l : List Int} (h : NAt w ao n c l) (k : Sub w w') : NAt w' ao n c l :=
  ⟨h.len, h.le, h.top, h.bare, fun h0 => by
    obtain ⟨b, p, e, hc⟩ := h.here h0
    exact ⟨b, p, e, fun i hi => ⟨k _ _ (hc i hi).1, (hc i hi).2⟩⟩⟩
theorem HdAt.sub {w w' : World} {p : Pt} {an aa : Option Addr} {nn nc ac : Nat} (h : HdAt w p an nn nc aa ac) (k : Sub w w') : HdAt w' p an nn nc aa ac := ⟨h.o1, h.o2, h.nmle, h.nums.sub k, h.le, h.top, h.bare⟩
theorem ExAt.sub {w w' : World} (k : Sub w w') : ∀ {n : Nat} {v : Value} {F : Tour}, ExAt w n v F → ExAt w' n v F
  | 0, _, _, h => h
  | n + 1, v, F, h => by
    obtain ⟨p, an, nn, nc, aa, ac, Fs, e1, hh, e2, e3, hc⟩ := h
    refine ⟨p, an, nn, nc, aa, ac, Fs, e1, hh.sub k, e2, e3, fun h0 => ?_⟩
    obtain ⟨b, q, e, hx⟩ := hc h0
    refine ⟨b, q, e, fun i hi => ?_⟩
    obtain ⟨x0, x1, x2, x3, c0, c1, c2, c3, hr⟩ := hx i hi
    exact ⟨x0, x1, x2, x3, k _ _ c0, k _ _ c1, k _ _ c2, k _ _ c3, hr.sub k⟩
/-- The blocks from a number on. -/
def frB (B : Nat) : Nat → Bool := fun q => decide (B ≤ q)
theorem frB_le {B q : Nat} (h : B ≤ q) : frB B q = true := decide_eq_true h
theorem le_frB {B q : Nat} (h : frB B q = true) : B ≤ q := of_decide_eq_true h
theorem ex_leaf' (p : World) (w : List UInt8) (h : w.length ≤ maxLen) : ExAt p 1 (.agg #[.int .u8 0, .string ⟨w.toArray⟩, .slice none 0 0, .slice none 0 0]) (tour (Lx.leaf w)) := by
  have e : tour (Lx.leaf w) = fun d => [((⟨0, ⟨w.toArray⟩, [], 0⟩ : Pt), d)] := by funext d; simp [Lx.leaf, tour, tours]
  rw [e]
  exact ex_name p 0 ⟨w.toArray⟩ (by decide) (by decide) (by rw [Lib.size_eq]; simpa using h)
end Go.Proofs.YtimjendkpjojoaaDoor
