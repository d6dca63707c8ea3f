/- Q1, Q6, Q7 in one. -/
import Derived.Test.YtimjendkpjojoaaGreatDoorKa
namespace Go.Proofs.YtimjendkpjojoaaGreatDoor
set_option linter.unusedVariables false
set_option linter.unusedSimpArgs false

namespace Lx
/-- An expression, as a tree. -/
inductive Ex where
  | mk (op : Int) (nm : List UInt8) (nums : List Int) (args : List Ex)
/-- How far the reader is: tokens read, parts begun, what was wrong. -/
structure St where
  at_ : Nat
  parts : Nat
  wrong : Int
def tkAt (l : List Tk) (i : Nat) : Tk := l.getD i (0, [], 0)
def isMk (l : List Tk) (i : Nat) (m : List UInt8) : Bool := decide ((tkAt l i).1 = 4 ∧ (tkAt l i).2.1 = m)
def isNm (l : List Tk) (i : Nat) : Bool := decide ((tkAt l i).1 = 1)
def isNu (l : List Tk) (i : Nat) : Bool := decide ((tkAt l i).1 = 2 ∨ (tkAt l i).1 = 3)
def take (l : List Tk) (s : St) (b : Bool) : Tk × St := if s.wrong = 0 then (if b = true then (tkAt l s.at_, ⟨s.at_ + 1, s.parts, s.wrong⟩) else ((0, [], 0), ⟨s.at_, s.parts, 110⟩)) else ((0, [], 0), s)
def mark (l : List Tk) (s : St) (m : List UInt8) : St := (take l s (isMk l s.at_ m)).2
def name (l : List Tk) (s : St) : List UInt8 × St := ((take l s (isNm l s.at_)).1.2.1, (take l s (isNm l s.at_)).2)
def number (l : List Tk) (s : St) : Int × St := ((take l s (isNu l s.at_)).1.2.2, (take l s (isNu l s.at_)).2)
/-- The operators' words. -/
def opW : List (List UInt8) := [[103, 114, 111, 117, 112], [115, 104, 105, 102, 116], [115, 117, 98, 115, 101, 116], [97, 108, 116, 101, 114], [99, 111, 109, 98, 105, 110, 101], [97, 110, 99, 104, 111, 114], [100, 111, 119, 110], [117, 112], [109, 101, 101, 116], [117, 110, 105, 111, 110], [99, 117, 116], [108, 101, 115, 115]]
def opGo : List (List UInt8) → Nat → List UInt8 → Nat
  | [], _, _ => 0
  | x :: r, i, w => if x = w then i else opGo r (i + 1) w
def opN (w : List UInt8) : Nat := opGo opW 1 w
def nuN (o : Nat) : Nat := ([0, 1, 1, 2, 3, 0, 0, 2, 0, 2, 0, 0, 0] : List Nat).getD o 0
def arN (o : Nat) : Nat := ([0, 1, 1, 1, 2, 2, 2, 2, 2, 2, 2, 2, 2] : List Nat).getD o 0
def leaf (w : List UInt8) : Ex := .mk 0 w [] []
def numsL (l : List Tk) : Nat → List UInt8 → List Int → St → List Int × List UInt8 × St
  | 0, b, acc, s => (acc, b, s)
  | n + 1, b, acc, s => numsL l n [44] (acc ++ [(number l (mark l s b)).1]) (number l (mark l s b)).2
def argsL (l : List Tk) (P : St → Ex × St) : Nat → List UInt8 → List Ex → St → List Ex × List UInt8 × St
  | 0, b, acc, s => (acc, b, s)
  | n + 1, b, acc, s => if (mark l s b).wrong = 0 then argsL l P n [44] (acc ++ [(P (mark l s b)).1]) (P (mark l s b)).2 else argsL l P n [44] acc (mark l s b)
def opA (l : List Tk) (o : Nat) (s : St) : List Int × List UInt8 × St := numsL l (nuN o) [40] [] s
def opB (l : List Tk) (P : St → Ex × St) (o : Nat) (s : St) : List Ex × List UInt8 × St := argsL l P (arN o) (opA l o s).2.1 [] (opA l o s).2.2
def operands (l : List Tk) (P : St → Ex × St) (o : Nat) (s : St) : Ex × St := (.mk o [] (opA l o s).1 (opB l P o s).1, mark l (opB l P o s).2.2 [41])
def begun (l : List Tk) (z : Bool) (s : St) : St := ⟨s.at_, s.parts + 1, if s.wrong = 0 ∧ isNm l s.at_ = true ∧ (z = true ∨ s.parts = 2000) then 111 else s.wrong⟩
def part (l : List Tk) : Nat → St → Ex × St
  | 0, s => (leaf (name l (begun l true s)).1, (name l (begun l true s)).2)
  | k + 1, s => if (name l (begun l false s)).2.wrong = 0 ∧ opN (name l (begun l false s)).1 ≠ 0 ∧ isMk l (name l (begun l false s)).2.at_ [40] = true then operands l (part l k) (opN (name l (begun l false s)).1) (name l (begun l false s)).2
    else (leaf (name l (begun l false s)).1, (name l (begun l false s)).2)
def failed (l : List Tk) (s : St) : St := if s.wrong = 0 ∧ s.at_ < l.length then ⟨s.at_, s.parts, 110⟩ else s
def told {α : Type} (l : List Tk) (z : α) (r : α × St) : α × Int × Int := if (failed l r.2).wrong = 0 then (r.1, -1, 0) else (z, ((failed l r.2).at_ : Int), (failed l r.2).wrong)
def exprE (l : List Tk) : Ex × Int × Int := told l (leaf []) (part l 40 ⟨0, 0, 0⟩)
structure Rg where
  low : Int
  high : Int
  hl : Bool
  hh : Bool
structure Cm where
  word : List UInt8
  names : List (List UInt8)
  nums : List Int
  rg : Rg
  ex : Ex
def noCm : Cm := ⟨[], [], [], ⟨0, 0, false, false⟩, leaf []⟩
/-- One end of a range. -/
def endE (l : List Tk) (s : St) : (Int × Bool) × St := if s.wrong ≠ 0 ∨ isNu l s.at_ = false then ((0, false), s) else (((number l s).1, true), (number l s).2)
def rgA (l : List Tk) (s : St) : (Int × Bool) × St := endE l (mark l s [91])
def rgB (l : List Tk) (s : St) : (Int × Bool) × St := endE l (mark l (rgA l s).2 [58])
def span (l : List Tk) (s : St) : Rg × St := (⟨(rgA l s).1.1, (rgB l s).1.1, (rgA l s).1.2, (rgB l s).1.2⟩, mark l (rgB l s).2 [93])
def stepC (l : List Tk) (c : Cm × St) (x : UInt8) : Cm × St :=
  if x = 110 then (⟨c.1.word, c.1.names ++ [(name l c.2).1], c.1.nums, c.1.rg, c.1.ex⟩, (name l c.2).2)
  else if x = 105 then (⟨c.1.word, c.1.names, c.1.nums ++ [(number l c.2).1], c.1.rg, c.1.ex⟩, (number l c.2).2)
  else if x = 101 then (⟨c.1.word, c.1.names, c.1.nums, c.1.rg, (part l 40 c.2).1⟩, (part l 40 c.2).2)
  else if x = 114 then (⟨c.1.word, c.1.names, c.1.nums, (span l c.2).1, c.1.ex⟩, (span l c.2).2)
  else (c.1, mark l c.2 [x])
def shapes : List (List UInt8 × List UInt8) := [([100, 101, 102, 105, 110, 101], [110, 61, 101]), ([100, 114, 111, 112], [110]), ([115, 104, 111, 119], [110]), ([102, 111, 114, 109], [110]), ([118, 97, 114], [110]), ([101, 120, 116, 101, 110, 116], [110, 105]), ([103, 114, 97, 110, 117, 108, 101], [110, 105]), ([110, 101, 120, 116], [110, 105]), ([112, 114, 101, 118], [110, 105]), ([115, 112, 97, 110], [110, 105]), ([114, 101, 108], [110, 110]), ([99, 111, 118, 101, 114], [110, 110, 105]), ([98, 111, 117, 110, 100], [110, 110, 110, 114]), ([100, 97, 116, 101], [105]), ([115, 111, 108, 118, 101], [105, 105, 105]), ([110, 101, 116], []), ([105, 110, 102, 101, 114], []), ([114, 101, 115, 101, 116], [])]
def shGo : List (List UInt8 × List UInt8) → List UInt8 → Option (List UInt8)
  | [], _ => none
  | x :: r, w => if w = x.1 then some x.2 else shGo r w
def shape (w : List UInt8) : Option (List UInt8) := shGo shapes w
def cmE (l : List Tk) : Cm × Int × Int := match shape (name l ⟨0, 0, 0⟩).1 with
  | none => (noCm, 0, 110)
  | some sh => if (name l ⟨0, 0, 0⟩).2.wrong ≠ 0 then (noCm, 0, 110) else told l noCm (sh.foldl (stepC l) (⟨(name l ⟨0, 0, 0⟩).1, [], [], ⟨0, 0, false, false⟩, leaf []⟩, (name l ⟨0, 0, 0⟩).2))
/-! Going on. -/
theorem tkAt_lt {l : List Tk} {i : Nat} (h : (tkAt l i).1 ≠ 0) : i < l.length := by
  rcases Nat.lt_or_ge i l.length with q | q
  · exact q
  · unfold tkAt at h; rw [List.getD_eq_getElem?_getD, List.getElem?_eq_none q] at h; exact absurd rfl h
theorem isMk_lt {l : List Tk} {i : Nat} {m : List UInt8} (h : isMk l i m = true) : i < l.length := by
  have := of_decide_eq_true h; exact tkAt_lt (by rw [this.1]; decide)
theorem isNm_lt {l : List Tk} {i : Nat} (h : isNm l i = true) : i < l.length := by
  have := of_decide_eq_true h; exact tkAt_lt (by rw [this]; decide)
theorem isNu_lt {l : List Tk} {i : Nat} (h : isNu l i = true) : i < l.length := by
  have := of_decide_eq_true h
  refine tkAt_lt ?_
  rcases this with e | e <;> rw [e] <;> decide
/-- What reading may do to where the reader is. -/
structure On (l : List Tk) (s t : St) : Prop where
  up : s.at_ ≤ t.at_
  top : s.at_ ≤ l.length → t.at_ ≤ l.length
  stay : s.wrong ≠ 0 → t.at_ = s.at_ ∧ t.wrong = s.wrong
  code : s.wrong = 0 → t.wrong = 0 ∨ t.wrong = 110 ∨ t.wrong = 111
theorem On.refl (l : List Tk) (s : St) : On l s s := ⟨Nat.le_refl _, id, fun _ => ⟨rfl, rfl⟩, fun h => .inl h⟩
theorem On.trans {l : List Tk} {s t u : St} (h : On l s t) (k : On l t u) : On l s u := by
  refine ⟨Nat.le_trans h.up k.up, fun q => k.top (h.top q), fun q => ?_, fun q => ?_⟩
  · have a := h.stay q
    have b := k.stay (by rw [a.2]; exact q)
    exact ⟨b.1.trans a.1, b.2.trans a.2⟩
  · by_cases z : t.wrong = 0
    · exact k.code z
    · rw [(k.stay z).2]; exact h.code q
theorem take_on {l : List Tk} {s : St} {b : Bool} (hb : b = true → s.at_ < l.length) : On l s (take l s b).2 := by
  unfold take
  by_cases h : s.wrong = 0
  · rw [if_pos h]
    by_cases q : b = true
    · rw [if_pos q]; have := hb q; exact ⟨Nat.le_succ _, fun _ => this, fun z => absurd h z, fun _ => .inl h⟩
    · rw [if_neg q]; exact ⟨Nat.le_refl _, id, fun z => absurd h z, fun _ => .inr (.inl rfl)⟩
  · rw [if_neg h]; exact On.refl l s
theorem take_parts (l : List Tk) (s : St) (b : Bool) : (take l s b).2.parts = s.parts := by
  unfold take; split
  · split <;> rfl
  · rfl
theorem mark_on (l : List Tk) (s : St) (m : List UInt8) : On l s (mark l s m) := take_on isMk_lt
theorem name_on (l : List Tk) (s : St) : On l s (name l s).2 := take_on isNm_lt
theorem number_on (l : List Tk) (s : St) : On l s (number l s).2 := take_on isNu_lt
theorem numsL_on (l : List Tk) : ∀ (n : Nat) (b : List UInt8) (acc : List Int) (s : St), On l s (numsL l n b acc s).2.2
  | 0, b, acc, s => On.refl l s
  | n + 1, b, acc, s => ((mark_on l s b).trans (number_on l _)).trans (numsL_on l n _ _ _)
theorem argsL_on (l : List Tk) (P : St → Ex × St) (hP : ∀ s, s.wrong = 0 → On l s (P s).2) : ∀ (n : Nat) (b : List UInt8) (acc : List Ex) (s : St), On l s (argsL l P n b acc s).2.2
  | 0, b, acc, s => On.refl l s
  | n + 1, b, acc, s => by
    unfold argsL
    by_cases h : (mark l s b).wrong = 0
    · rw [if_pos h]; exact ((mark_on l s b).trans (hP _ h)).trans (argsL_on l P hP n _ _ _)
    · rw [if_neg h]; exact (mark_on l s b).trans (argsL_on l P hP n _ _ _)
theorem operands_on (l : List Tk) (P : St → Ex × St) (hP : ∀ s, s.wrong = 0 → On l s (P s).2) (o : Nat) (s : St) : On l s (operands l P o s).2 :=
  ((numsL_on l _ _ _ s).trans (argsL_on l P hP _ _ _ _)).trans (mark_on l _ _)
theorem begun_on (l : List Tk) (z : Bool) (s : St) : On l s (begun l z s) := by
  refine ⟨Nat.le_refl _, id, fun h => ⟨rfl, ?_⟩, fun h => ?_⟩
  · unfold begun; dsimp only; rw [if_neg (fun q => h q.1)]
  · unfold begun; dsimp only
    split
    · exact .inr (.inr rfl)
    · exact .inl h
theorem part_on (l : List Tk) : ∀ (k : Nat) (s : St), On l s (part l k s).2
  | 0, s => (begun_on l true s).trans (name_on l _)
  | k + 1, s => by
    unfold part
    split
    · exact ((begun_on l false s).trans (name_on l _)).trans (operands_on l _ (fun s _ => part_on l k s) _ _)
    · exact (begun_on l false s).trans (name_on l _)
theorem endE_on (l : List Tk) (s : St) : On l s (endE l s).2 := by
  unfold endE
  split
  · exact On.refl l s
  · exact number_on l s
theorem span_on (l : List Tk) (s : St) : On l s (span l s).2 := (((mark_on l s _).trans (endE_on l _)).trans ((mark_on l _ _).trans (endE_on l _))).trans (mark_on l _ _)
theorem stepC_on (l : List Tk) (c : Cm × St) (x : UInt8) : On l c.2 (stepC l c x).2 := by
  unfold stepC
  split
  · exact name_on l _
  · split
    · exact number_on l _
    · split
      · exact part_on l 40 _
      · split
        · exact span_on l _
        · exact mark_on l _ _
theorem steps_on (l : List Tk) : ∀ (sh : List UInt8) (c : Cm × St), On l c.2 (sh.foldl (stepC l) c).2
  | [], c => On.refl l _
  | x :: r, c => (stepC_on l c x).trans (steps_on l r _)
/-! Two lists that begin alike. -/
def Agr (l l' : List Tk) (m : Nat) : Prop := ∀ i, i < m → tkAt l i = tkAt l' i
def Sy {α : Type} (m : Nat) (x y : α × St) : Prop := (x = y ∧ x.2.at_ < m) ∨ (m ≤ x.2.at_ ∧ m ≤ y.2.at_)
theorem Sy.mk' {α : Type} {m : Nat} {x y : α × St} (h : x = y) : Sy m x y := by
  rcases Nat.lt_or_ge x.2.at_ m with q | q
  · exact .inl ⟨h, q⟩
  · exact .inr ⟨q, by rw [← h]; exact q⟩
theorem Sy.far {α β : Type} {l l' : List Tk} {m : Nat} {x y : α × St} (h1 : m ≤ x.2.at_) (h2 : m ≤ y.2.at_) {u v : β × St} (a : On l x.2 u.2) (b : On l' y.2 v.2) : Sy m u v := .inr ⟨Nat.le_trans h1 a.up, Nat.le_trans h2 b.up⟩
/-- Two ways, one behind the other. -/
theorem Sy.bind {α β : Type} {l l' : List Tk} {m : Nat} {x y : α × St} (h : Sy m x y) (f g : α × St → β × St) (hf : On l x.2 (f x).2) (hg : On l' y.2 (g y).2) (he : x = y → x.2.at_ < m → Sy m (f x) (g x)) : Sy m (f x) (g y) := by
  rcases h with ⟨e, q⟩ | ⟨a, b⟩
  · have := he e q; subst e; exact this
  · exact .inr ⟨Nat.le_trans a hf.up, Nat.le_trans b hg.up⟩
theorem isMk_agr {l l' : List Tk} {m i : Nat} (h : Agr l l' m) (hi : i < m) (k : List UInt8) : isMk l i k = isMk l' i k := by unfold isMk; rw [h i hi]
theorem isNm_agr {l l' : List Tk} {m i : Nat} (h : Agr l l' m) (hi : i < m) : isNm l i = isNm l' i := by unfold isNm; rw [h i hi]
theorem isNu_agr {l l' : List Tk} {m i : Nat} (h : Agr l l' m) (hi : i < m) : isNu l i = isNu l' i := by unfold isNu; rw [h i hi]
theorem take_agr {l l' : List Tk} {m : Nat} (h : Agr l l' m) {s : St} (hs : s.at_ < m) (b : Bool) : take l s b = take l' s b := by unfold take; rw [h _ hs]
theorem mark_agr {l l' : List Tk} {m : Nat} (h : Agr l l' m) {s : St} (hs : s.at_ < m) (k : List UInt8) : mark l s k = mark l' s k := by unfold mark; rw [isMk_agr h hs, take_agr h hs]
theorem name_agr {l l' : List Tk} {m : Nat} (h : Agr l l' m) {s : St} (hs : s.at_ < m) : name l s = name l' s := by unfold name; rw [isNm_agr h hs, take_agr h hs]
theorem number_agr {l l' : List Tk} {m : Nat} (h : Agr l l' m) {s : St} (hs : s.at_ < m) : number l s = number l' s := by unfold number; rw [isNu_agr h hs, take_agr h hs]
theorem begun_agr {l l' : List Tk} {m : Nat} (h : Agr l l' m) {s : St} (hs : s.at_ < m) (z : Bool) : begun l z s = begun l' z s := by unfold begun; rw [isNm_agr h hs]
def unit (s : St) : Unit × St := ((), s)
def pair {α β : Type} (r : α × β × St) : (α × β) × St := ((r.1, r.2.1), r.2.2)
theorem numsL_sy {l l' : List Tk} {m : Nat} (h : Agr l l' m) : ∀ (n : Nat) (b : List UInt8) (acc : List Int) (s : St), s.at_ < m → Sy m (pair (numsL l n b acc s)) (pair (numsL l' n b acc s))
  | 0, b, acc, s, hs => Sy.mk' rfl
  | n + 1, b, acc, s, hs => by
    have e1 : Sy m (unit (mark l s b)) (unit (mark l' s b)) := Sy.mk' (by rw [mark_agr h hs])
    have e2 : Sy m (number l (mark l s b)) (number l' (mark l' s b)) := e1.bind (fun x => number l x.2) (fun x => number l' x.2) (number_on l _) (number_on l' _) (fun _ q => Sy.mk' (by rw [number_agr h q]))
    exact e2.bind (fun x => pair (numsL l n [44] (acc ++ [x.1]) x.2)) (fun x => pair (numsL l' n [44] (acc ++ [x.1]) x.2)) (numsL_on l _ _ _ _) (numsL_on l' _ _ _ _) (fun _ q => numsL_sy h n _ _ _ q)
theorem argsL_sy {l l' : List Tk} {m : Nat} (h : Agr l l' m) (P P' : St → Ex × St) (hP : ∀ s, s.wrong = 0 → On l s (P s).2) (hP' : ∀ s, s.wrong = 0 → On l' s (P' s).2) (hS : ∀ s, s.at_ < m → Sy m (P s) (P' s)) : ∀ (n : Nat) (b : List UInt8) (acc : List Ex) (s : St), s.at_ < m → Sy m (pair (argsL l P n b acc s)) (pair (argsL l' P' n b acc s))
  | 0, b, acc, s, hs => Sy.mk' rfl
  | n + 1, b, acc, s, hs => by
    have e1 : Sy m (unit (mark l s b)) (unit (mark l' s b)) := Sy.mk' (by rw [mark_agr h hs])
    have on1 : ∀ t : St, On l t (if t.wrong = 0 then argsL l P n [44] (acc ++ [(P t).1]) (P t).2 else argsL l P n [44] acc t).2.2 := fun t => by
      split
      · rename_i z; exact (hP _ z).trans (argsL_on l P hP n _ _ _)
      · exact argsL_on l P hP n _ _ _
    have on2 : ∀ t : St, On l' t (if t.wrong = 0 then argsL l' P' n [44] (acc ++ [(P' t).1]) (P' t).2 else argsL l' P' n [44] acc t).2.2 := fun t => by
      split
      · rename_i z; exact (hP' _ z).trans (argsL_on l' P' hP' n _ _ _)
      · exact argsL_on l' P' hP' n _ _ _
    refine e1.bind (fun x => pair (if x.2.wrong = 0 then argsL l P n [44] (acc ++ [(P x.2).1]) (P x.2).2 else argsL l P n [44] acc x.2)) (fun x => pair (if x.2.wrong = 0 then argsL l' P' n [44] (acc ++ [(P' x.2).1]) (P' x.2).2 else argsL l' P' n [44] acc x.2)) (on1 _) (on2 _) (fun _ q => ?_)
    obtain ⟨t, ht⟩ : ∃ t, unit (mark l s b) = ((), t) := ⟨_, rfl⟩
    rw [ht] at q ⊢
    dsimp only at q ⊢
    by_cases z : t.wrong = 0
    · rw [if_pos z, if_pos z]
      exact (hS t q).bind (fun x => pair (argsL l P n [44] (acc ++ [x.1]) x.2)) (fun x => pair (argsL l' P' n [44] (acc ++ [x.1]) x.2)) (argsL_on l P hP _ _ _ _) (argsL_on l' P' hP' _ _ _ _) (fun _ q => argsL_sy h P P' hP hP' hS n _ _ _ q)
    · rw [if_neg z, if_neg z]
      exact argsL_sy h P P' hP hP' hS n _ _ _ q
theorem operands_sy {l l' : List Tk} {m : Nat} (h : Agr l l' m) (P P' : St → Ex × St) (hP : ∀ s, s.wrong = 0 → On l s (P s).2) (hP' : ∀ s, s.wrong = 0 → On l' s (P' s).2) (hS : ∀ s, s.at_ < m → Sy m (P s) (P' s)) (o : Nat) (s : St) (hs : s.at_ < m) : Sy m (operands l P o s) (operands l' P' o s) := by
  have e1 := numsL_sy h (nuN o) [40] [] s hs
  have e2 := e1.bind (β := (List Int × List UInt8) × List Ex × List UInt8) (fun x => ((x.1, (argsL l P (arN o) x.1.2 [] x.2).1, (argsL l P (arN o) x.1.2 [] x.2).2.1), (argsL l P (arN o) x.1.2 [] x.2).2.2)) (fun x => ((x.1, (argsL l' P' (arN o) x.1.2 [] x.2).1, (argsL l' P' (arN o) x.1.2 [] x.2).2.1), (argsL l' P' (arN o) x.1.2 [] x.2).2.2)) (argsL_on l P hP _ _ _ _) (argsL_on l' P' hP' _ _ _ _) (fun _ q => by
    obtain ⟨x, hx⟩ : ∃ x, pair (numsL l (nuN o) [40] [] s) = x := ⟨_, rfl⟩
    rw [hx] at q ⊢
    rcases argsL_sy h P P' hP hP' hS (arN o) x.1.2 [] x.2 q with ⟨e, q'⟩ | ⟨a, b⟩
    · refine .inl ⟨?_, q'⟩
      have i1 := congrArg (fun z => z.1.1) e
      have i2 := congrArg (fun z => z.1.2) e
      have i3 := congrArg (fun z => z.2) e
      dsimp only [pair] at i1 i2 i3 ⊢
      rw [i1, i2, i3]
    · exact .inr ⟨a, b⟩)
  exact e2.bind (fun x => (Ex.mk o [] x.1.1.1 x.1.2.1, mark l x.2 [41])) (fun x => (Ex.mk o [] x.1.1.1 x.1.2.1, mark l' x.2 [41])) (mark_on l _ _) (mark_on l' _ _) (fun _ q => Sy.mk' (by rw [mark_agr h q]))
theorem part_sy {l l' : List Tk} {m : Nat} (h : Agr l l' m) : ∀ (k : Nat) (s : St), s.at_ < m → Sy m (part l k s) (part l' k s)
  | 0, s, hs => by
    unfold part
    have e1 : Sy m (name l (begun l true s)) (name l' (begun l' true s)) := Sy.mk' (by rw [begun_agr h hs, name_agr h (by exact hs)])
    exact e1.bind (fun x => (leaf x.1, x.2)) (fun x => (leaf x.1, x.2)) (On.refl l _) (On.refl l' _) (fun _ q => Sy.mk' rfl)
  | k + 1, s, hs => by
    have e1 : Sy m (name l (begun l false s)) (name l' (begun l' false s)) := Sy.mk' (by rw [begun_agr h hs, name_agr h (by exact hs)])
    have on1 : ∀ (L : List Tk) (x : List UInt8 × St), On L x.2 (if x.2.wrong = 0 ∧ opN x.1 ≠ 0 ∧ isMk L x.2.at_ [40] = true then operands L (part L k) (opN x.1) x.2 else (leaf x.1, x.2)).2 := fun L x => by
      split
      · exact operands_on L _ (fun s _ => part_on L k s) _ _
      · exact On.refl L _
    exact e1.bind (fun x => if x.2.wrong = 0 ∧ opN x.1 ≠ 0 ∧ isMk l x.2.at_ [40] = true then operands l (part l k) (opN x.1) x.2 else (leaf x.1, x.2)) (fun x => if x.2.wrong = 0 ∧ opN x.1 ≠ 0 ∧ isMk l' x.2.at_ [40] = true then operands l' (part l' k) (opN x.1) x.2 else (leaf x.1, x.2)) (on1 l _) (on1 l' _) (fun _ q => by
      rw [isMk_agr h q]
      split
      · exact operands_sy h _ _ (fun s _ => part_on l k s) (fun s _ => part_on l' k s) (fun s q => part_sy h k s q) _ _ q
      · exact Sy.mk' rfl)
theorem endE_sy {l l' : List Tk} {m : Nat} (h : Agr l l' m) {s : St} (hs : s.at_ < m) : endE l s = endE l' s := by unfold endE; rw [isNu_agr h hs, number_agr h hs]
theorem span_sy {l l' : List Tk} {m : Nat} (h : Agr l l' m) (s : St) (hs : s.at_ < m) : Sy m (span l s) (span l' s) := by
  have e1 : Sy m (unit (mark l s [91])) (unit (mark l' s [91])) := Sy.mk' (by rw [mark_agr h hs])
  have e2 : Sy m (rgA l s) (rgA l' s) := e1.bind (fun x => endE l x.2) (fun x => endE l' x.2) (endE_on l _) (endE_on l' _) (fun _ q => Sy.mk' (by rw [endE_sy h q]))
  have e3 := e2.bind (β := Int × Bool) (fun x => (x.1, mark l x.2 [58])) (fun x => (x.1, mark l' x.2 [58])) (mark_on l _ _) (mark_on l' _ _) (fun _ q => Sy.mk' (by rw [mark_agr h q]))
  have e4 := e3.bind (β := (Int × Bool) × (Int × Bool)) (fun x => ((x.1, (endE l x.2).1), (endE l x.2).2)) (fun x => ((x.1, (endE l' x.2).1), (endE l' x.2).2)) (endE_on l _) (endE_on l' _) (fun _ q => Sy.mk' (by rw [endE_sy h q]))
  exact e4.bind (fun x => ((⟨x.1.1.1, x.1.2.1, x.1.1.2, x.1.2.2⟩ : Rg), mark l x.2 [93])) (fun x => ((⟨x.1.1.1, x.1.2.1, x.1.1.2, x.1.2.2⟩ : Rg), mark l' x.2 [93])) (mark_on l _ _) (mark_on l' _ _) (fun _ q => Sy.mk' (by rw [mark_agr h q]))
theorem stepC_sy {l l' : List Tk} {m : Nat} (h : Agr l l' m) (c : Cm × St) (hs : c.2.at_ < m) (x : UInt8) : Sy m (stepC l c x) (stepC l' c x) := by
  unfold stepC
  split
  · exact Sy.mk' (by rw [name_agr h hs])
  · split
    · exact Sy.mk' (by rw [number_agr h hs])
    · split
      · exact (part_sy h 40 c.2 hs).bind (fun y => ((⟨c.1.word, c.1.names, c.1.nums, c.1.rg, y.1⟩ : Cm), y.2)) (fun y => ((⟨c.1.word, c.1.names, c.1.nums, c.1.rg, y.1⟩ : Cm), y.2)) (On.refl l _) (On.refl l' _) (fun _ _ => Sy.mk' rfl)
      · split
        · exact (span_sy h c.2 hs).bind (fun y => ((⟨c.1.word, c.1.names, c.1.nums, y.1, c.1.ex⟩ : Cm), y.2)) (fun y => ((⟨c.1.word, c.1.names, c.1.nums, y.1, c.1.ex⟩ : Cm), y.2)) (On.refl l _) (On.refl l' _) (fun _ _ => Sy.mk' rfl)
        · exact Sy.mk' (by rw [mark_agr h hs])
theorem steps_sy {l l' : List Tk} {m : Nat} (h : Agr l l' m) : ∀ (sh : List UInt8) (c : Cm × St), c.2.at_ < m → Sy m (sh.foldl (stepC l) c) (sh.foldl (stepC l') c)
  | [], c, _ => Sy.mk' rfl
  | x :: r, c, hs => (stepC_sy h c hs x).bind (fun c => r.foldl (stepC l) c) (fun c => r.foldl (stepC l') c) (steps_on l r _) (steps_on l' r _) (fun _ q => steps_sy h r _ q)
theorem failed_at (l : List Tk) (s : St) : (failed l s).at_ = s.at_ := by unfold failed; split <;> rfl
theorem told_code {α : Type} {l : List Tk} {z : α} {r : α × St} (h : r.2.wrong = 0 ∨ r.2.wrong = 110 ∨ r.2.wrong = 111) (ht : r.2.at_ ≤ l.length) :
    ((told l z r).2.1 = -1 ∧ (told l z r).2.2 = 0) ∨ ((told l z r).2.1 = (r.2.at_ : Int) ∧ ((told l z r).2.2 = 110 ∨ (told l z r).2.2 = 111)) := by
  unfold told
  by_cases q : (failed l r.2).wrong = 0
  · rw [if_pos q]; exact .inl ⟨rfl, rfl⟩
  · rw [if_neg q]
    refine .inr ⟨by rw [failed_at], ?_⟩
    show (failed l r.2).wrong = 110 ∨ (failed l r.2).wrong = 111
    unfold failed at q ⊢
    split
    · exact .inl rfl
    · rename_i z; rw [if_neg z] at q; rcases h with h | h
      · exact absurd h q
      · exact h
theorem expr_code (l : List Tk) : ((exprE l).2.1 = -1 ∧ (exprE l).2.2 = 0) ∨ ((exprE l).2.1 = ((part l 40 ⟨0, 0, 0⟩).2.at_ : Int) ∧ (part l 40 ⟨0, 0, 0⟩).2.at_ ≤ l.length ∧ ((exprE l).2.2 = 110 ∨ (exprE l).2.2 = 111)) := by
  have h := part_on l 40 ⟨0, 0, 0⟩
  have t := h.top (Nat.zero_le _)
  rcases told_code (z := leaf []) (h.code rfl) t with a | a
  · exact .inl a
  · exact .inr ⟨a.1, t, a.2⟩
theorem agr_take (l more : List Tk) (m : Nat) (h : m ≤ l.length) : Agr l (l.take m ++ more) m := fun i hi => by
  unfold tkAt
  rw [List.getD_eq_getElem?_getD, List.getD_eq_getElem?_getD, List.getElem?_append_left (by rw [List.length_take]; omega), List.getElem?_take_of_lt hi]
/-- Where an expression's error is: others behind make it that place, or a later one. -/
theorem expr_place (l more : List Tk) (h : (exprE l).2.2 ≠ 0) (m : Nat) (hm : (exprE l).2.1 = (m : Int)) : m ≤ l.length ∧ ((exprE (l.take m ++ more)).2.2 ≠ 0 → (m : Int) ≤ (exprE (l.take m ++ more)).2.1) := by
  rcases expr_code l with a | ⟨a, b, _⟩
  · exact absurd a.2 h
  · have e : (part l 40 ⟨0, 0, 0⟩).2.at_ = m := by omega
    have hml : m ≤ l.length := by omega
    refine ⟨hml, fun q => ?_⟩
    rcases expr_code (l.take m ++ more) with a' | ⟨a', _, _⟩
    · exact absurd a'.2 q
    · rw [a']
      rcases Nat.eq_zero_or_pos m with z | z
      · omega
      · rcases part_sy (agr_take l more m hml) 40 ⟨0, 0, 0⟩ z with ⟨_, g⟩ | ⟨_, g⟩
        · omega
        · omega
theorem cm_code (l : List Tk) : ((cmE l).2.1 = -1 ∧ (cmE l).2.2 = 0) ∨ (0 ≤ (cmE l).2.1 ∧ (cmE l).2.1 ≤ l.length ∧ ((cmE l).2.2 = 110 ∨ (cmE l).2.2 = 111)) := by
  unfold cmE
  cases shape (name l ⟨0, 0, 0⟩).1 with
  | none => exact .inr ⟨Int.le_refl _, by simp, .inl rfl⟩
  | some sh =>
    dsimp only
    split
    · exact .inr ⟨Int.le_refl _, by simp, .inl rfl⟩
    · have h := (name_on l ⟨0, 0, 0⟩).trans (steps_on l sh (⟨(name l ⟨0, 0, 0⟩).1, [], [], ⟨0, 0, false, false⟩, leaf []⟩, (name l ⟨0, 0, 0⟩).2))
      have t := h.top (Nat.zero_le _)
      rcases told_code (z := noCm) (h.code rfl) t with a | a
      · exact .inl a
      · exact .inr ⟨by rw [a.1]; omega, by rw [a.1]; exact Int.ofNat_le.2 t, a.2⟩
theorem cm_place (l more : List Tk) (h : (cmE l).2.2 ≠ 0) (m : Nat) (hm : (cmE l).2.1 = (m : Int)) (h0 : 0 < m) : m ≤ l.length ∧ ((cmE (l.take m ++ more)).2.2 ≠ 0 → (m : Int) ≤ (cmE (l.take m ++ more)).2.1) := by
  have hml : m ≤ l.length := by
    rcases cm_code l with a | a
    · exact absurd a.2 h
    · omega
  refine ⟨hml, fun q => ?_⟩
  have hA := agr_take l more m hml
  obtain ⟨l', hl'⟩ : ∃ l', l.take m ++ more = l' := ⟨_, rfl⟩
  rw [hl'] at hA q ⊢
  have en : name l' ⟨0, 0, 0⟩ = name l ⟨0, 0, 0⟩ := (name_agr hA (s := ⟨0, 0, 0⟩) h0).symm
  unfold cmE at h hm q ⊢
  rw [en] at q ⊢
  cases hs : shape (name l ⟨0, 0, 0⟩).1 with
  | none => rw [hs] at hm; dsimp only at hm; omega
  | some sh =>
    rw [hs] at h hm q
    dsimp only at h hm q ⊢
    by_cases z : (name l ⟨0, 0, 0⟩).2.wrong ≠ 0
    · rw [if_pos z] at hm; dsimp only at hm; omega
    · rw [if_neg z] at h hm q ⊢
      obtain ⟨c, hc⟩ : ∃ c : Cm × St, ((⟨(name l ⟨0, 0, 0⟩).1, [], [], ⟨0, 0, false, false⟩, leaf []⟩ : Cm), (name l ⟨0, 0, 0⟩).2) = c := ⟨_, rfl⟩
      have c2 : c.2 = (name l ⟨0, 0, 0⟩).2 := by rw [← hc]
      rw [hc] at h hm q ⊢
      have o1 := (name_on l ⟨0, 0, 0⟩).trans (c2 ▸ steps_on l sh c)
      have o2 := (name_on l' ⟨0, 0, 0⟩).trans (s := ⟨0, 0, 0⟩) (by rw [en, ← c2]; exact steps_on l' sh c)
      have t1 := told_code (z := noCm) (o1.code rfl) (o1.top (Nat.zero_le _))
      have t2 := told_code (z := noCm) (o2.code rfl) (o2.top (Nat.zero_le _))
      have a1 : (sh.foldl (stepC l) c).2.at_ = m := by
        rcases t1 with a | a
        · exact absurd a.2 h
        · omega
      have a2 : (told l' noCm (sh.foldl (stepC l') c)).2.1 = ((sh.foldl (stepC l') c).2.at_ : Int) := by
        rcases t2 with a | a
        · exact absurd a.2 q
        · exact a.1
      rw [a2]
      rcases Nat.lt_or_ge c.2.at_ m with k | k
      · rcases steps_sy hA sh c k with ⟨_, g⟩ | ⟨_, g⟩
        · omega
        · omega
      · have := (steps_on l' sh c).up
        omega
end Lx

namespace Lx
def sh4 : List Tk := [(1, [115, 104, 105, 102, 116], 0), (4, [40], 0), (2, [], 1), (4, [44], 0)]
def depL : Nat → List Tk
  | 0 => []
  | k + 1 => depL k ++ sh4
theorem depL_len : ∀ k, (depL k).length = 4 * k
  | 0 => rfl
  | k + 1 => by rw [depL, List.length_append, depL_len k]; show 4 * k + 4 = 4 * (k + 1); omega
theorem depL_at : ∀ (k : Nat) (r : List Tk) (i : Nat), i < k → ∀ q, q < 4 → tkAt (depL k ++ r) (4 * i + q) = sh4.getD q (0, [], 0)
  | 0, _, _, h, _, _ => absurd h (Nat.not_lt_zero _)
  | k + 1, r, i, h, q, hq => by
    rw [depL, List.append_assoc]
    by_cases z : i < k
    · exact depL_at k _ i z q hq
    · obtain rfl : i = k := by omega
      unfold tkAt
      rw [List.getD_eq_getElem?_getD, List.getElem?_append_right (by rw [depL_len]; omega), depL_len, show 4 * i + q - 4 * i = q by omega, List.getElem?_append_left (by exact hq), List.getD_eq_getElem?_getD]
theorem depL_end (k : Nat) (x : Tk) (r : List Tk) : tkAt (depL k ++ x :: r) (4 * k) = x := by
  unfold tkAt
  rw [List.getD_eq_getElem?_getD, List.getElem?_append_right (by rw [depL_len]; omega), depL_len, Nat.sub_self]; rfl
/-- From here on there are so many operators, one within the other, and then a name. -/
structure Dp (l : List Tk) (j at_ : Nat) : Prop where
  op : ∀ i, i < j → ∀ q, q < 4 → tkAt l (at_ + 4 * i + q) = sh4.getD q (0, [], 0)
  nm : (tkAt l (at_ + 4 * j)).1 = 1
theorem Dp.next {l : List Tk} {j at_ : Nat} (h : Dp l (j + 1) at_) : Dp l j (at_ + 4) :=
  ⟨fun i hi q hq => by have := h.op (i + 1) (by omega) q hq; rw [show at_ + 4 + 4 * i + q = at_ + 4 * (i + 1) + q by omega]; exact this, by rw [show at_ + 4 + 4 * j = at_ + 4 * (j + 1) by omega]; exact h.nm⟩
theorem Dp.name {l : List Tk} {j at_ : Nat} (h : Dp l j at_) : (tkAt l at_).1 = 1 := by
  cases j with
  | zero => simpa using h.nm
  | succ j => have := h.op 0 (by omega) 0 (by omega); simp at this; rw [this]; rfl
theorem take_t {l : List Tk} {s : St} (h : s.wrong = 0) : take l s true = (tkAt l s.at_, ⟨s.at_ + 1, s.parts, s.wrong⟩) := by unfold take; rw [if_pos h, if_pos rfl]
/-- One operator on. -/
theorem dp_step {l : List Tk} {j k : Nat} {s : St} (h : Dp l (j + 1) s.at_) (hw : s.wrong = 0) (hp : s.parts < 2000) : (part l (k + 1) s).2 = mark l (part l k ⟨s.at_ + 4, s.parts + 1, 0⟩).2 [41] := by
  have t0 := h.op 0 (by omega) 0 (by omega)
  have t1 := h.op 0 (by omega) 1 (by omega)
  have t2 := h.op 0 (by omega) 2 (by omega)
  have t3 := h.op 0 (by omega) 3 (by omega)
  simp only [Nat.mul_zero, Nat.add_zero] at t0 t1 t2 t3
  have hb : begun l false s = ⟨s.at_, s.parts + 1, 0⟩ := by
    unfold begun; rw [if_neg (fun e => by rcases e.2.2 with z | z; cases z; omega), hw]
  have n0 : name l (begun l false s) = ([115, 104, 105, 102, 116], ⟨s.at_ + 1, s.parts + 1, 0⟩) := by
    rw [hb]; unfold name isNm; rw [show decide ((tkAt l s.at_).1 = 1) = true by rw [t0]; rfl, take_t rfl, t0]; rfl
  have m1 : isMk l (s.at_ + 1) [40] = true := by unfold isMk; rw [t1]; rfl
  have o1 : mark l ⟨s.at_ + 1, s.parts + 1, 0⟩ [40] = ⟨s.at_ + 2, s.parts + 1, 0⟩ := by unfold mark; rw [m1, take_t rfl]
  have o2 : number l ⟨s.at_ + 2, s.parts + 1, 0⟩ = (1, ⟨s.at_ + 3, s.parts + 1, 0⟩) := by
    unfold number isNu; rw [show decide ((tkAt l (s.at_ + 2)).1 = 2 ∨ (tkAt l (s.at_ + 2)).1 = 3) = true by rw [t2]; rfl, take_t rfl, t2]; rfl
  have m3 : isMk l (s.at_ + 3) [44] = true := by unfold isMk; rw [t3]; rfl
  have o3 : mark l ⟨s.at_ + 3, s.parts + 1, 0⟩ [44] = ⟨s.at_ + 4, s.parts + 1, 0⟩ := by unfold mark; rw [m3, take_t rfl]
  conv => lhs; unfold part
  rw [n0]
  rw [if_pos ⟨rfl, (show opN [115, 104, 105, 102, 116] ≠ 0 by decide), m1⟩]
  have a0 : opA l 2 ⟨s.at_ + 1, s.parts + 1, 0⟩ = ([1], [44], ⟨s.at_ + 3, s.parts + 1, 0⟩) := by
    show numsL l 1 [40] [] _ = _
    unfold numsL; rw [o1, o2]; rfl
  show mark l (opB l (part l k) 2 ⟨s.at_ + 1, s.parts + 1, 0⟩).2.2 [41] = _
  have b0 : (opB l (part l k) 2 ⟨s.at_ + 1, s.parts + 1, 0⟩).2.2 = (part l k ⟨s.at_ + 4, s.parts + 1, 0⟩).2 := by
    unfold opB
    rw [a0]
    show (argsL l (part l k) 1 [44] [] ⟨s.at_ + 3, s.parts + 1, 0⟩).2.2 = _
    unfold argsL
    rw [o3, if_pos rfl]
    rfl
  rw [b0]
/-- Not too deep: what stands inside is read. -/
theorem dp_in {l : List Tk} : ∀ (j k : Nat) (s : St), Dp l j s.at_ → s.wrong = 0 → s.parts + j < 2000 → j < k → s.at_ + 4 * j + 1 ≤ (part l k s).2.at_
  | 0, 0, s, h, hw, hp, hk => absurd hk (Nat.lt_irrefl _)
  | 0, k + 1, s, h, hw, hp, hk => by
    have hb : begun l false s = ⟨s.at_, s.parts + 1, 0⟩ := by
      unfold begun; rw [if_neg (fun e => by rcases e.2.2 with z | z; cases z; omega), hw]
    have n0 : (name l (begun l false s)).2 = ⟨s.at_ + 1, s.parts + 1, 0⟩ := by
      rw [hb]; unfold name isNm; rw [show decide ((tkAt l s.at_).1 = 1) = true by rw [h.name]; rfl, take_t rfl]
    have up : (name l (begun l false s)).2.at_ ≤ (part l (k + 1) s).2.at_ := by
      unfold part
      split
      · exact (operands_on l _ (fun s _ => part_on l k s) _ _).up
      · exact Nat.le_refl _
    rw [n0] at up
    exact up
  | j + 1, 0, s, h, hw, hp, hk => absurd hk (Nat.not_lt_zero _)
  | j + 1, k + 1, s, h, hw, hp, hk => by
    rw [dp_step h hw (by omega)]
    have ih := dp_in j k ⟨s.at_ + 4, s.parts + 1, 0⟩ h.next rfl (by show s.parts + 1 + j < 2000; omega) (by omega)
    have up := (mark_on l (part l k ⟨s.at_ + 4, s.parts + 1, 0⟩).2 [41]).up
    dsimp only at ih
    omega
/-- Too deep. -/
theorem dp_out {l : List Tk} : ∀ (j k : Nat) (s : St), Dp l j s.at_ → s.wrong = 0 → s.parts + j < 2000 → k ≤ j → (part l k s).2.at_ = s.at_ + 4 * k ∧ (part l k s).2.wrong = 111
  | j, 0, s, h, hw, hp, hk => by
    have hb : begun l true s = ⟨s.at_, s.parts + 1, 111⟩ := by
      unfold begun; rw [if_pos ⟨hw, by unfold isNm; rw [h.name]; rfl, .inl rfl⟩]
    have n0 : (name l (begun l true s)).2 = ⟨s.at_, s.parts + 1, 111⟩ := by
      rw [hb]; unfold name take; rw [if_neg (by show ¬ (111 : Int) = 0; decide)]
    unfold part
    rw [n0]
    exact ⟨rfl, rfl⟩
  | 0, k + 1, s, h, hw, hp, hk => absurd hk (Nat.not_succ_le_zero _)
  | j + 1, k + 1, s, h, hw, hp, hk => by
    rw [dp_step h hw (by omega)]
    obtain ⟨e1, e2⟩ := dp_out j k ⟨s.at_ + 4, s.parts + 1, 0⟩ h.next rfl (by show s.parts + 1 + j < 2000; omega) (by omega)
    have st := (mark_on l (part l k ⟨s.at_ + 4, s.parts + 1, 0⟩).2 [41]).stay (by rw [e2]; decide)
    rw [st.1, st.2, e1, e2]
    exact ⟨by show s.at_ + 4 + 4 * k = s.at_ + 4 * (k + 1); omega, rfl⟩
theorem dp_of (j : Nat) (x : Tk) (r : List Tk) (hx : x.1 = 1) : Dp (depL j ++ x :: r) j 0 :=
  ⟨fun i hi q hq => by have := depL_at j (x :: r) i hi q hq; rwa [show 0 + 4 * i + q = 4 * i + q by omega], by rw [Nat.zero_add, depL_end]; exact hx⟩
theorem depth_out (j : Nat) (x : Tk) (r : List Tk) (hx : x.1 = 1) (h : 40 ≤ j) (h2 : j < 2000) : (exprE (depL j ++ x :: r)).2.1 = 160 ∧ (exprE (depL j ++ x :: r)).2.2 = 111 := by
  obtain ⟨e1, e2⟩ := dp_out j 40 ⟨0, 0, 0⟩ (dp_of j x r hx) rfl (by show 0 + j < 2000; omega) h
  unfold exprE told
  have ef : failed (depL j ++ x :: r) (part (depL j ++ x :: r) 40 ⟨0, 0, 0⟩).2 = (part (depL j ++ x :: r) 40 ⟨0, 0, 0⟩).2 := by
    unfold failed; rw [if_neg (fun z => by rw [e2] at z; exact absurd z.1 (by decide))]
  rw [ef, if_neg (by rw [e2]; decide)]
  dsimp only
  rw [e1, e2]
  exact ⟨rfl, rfl⟩
theorem depth_in (j : Nat) (x : Tk) (r : List Tk) (hx : x.1 = 1) (h : j < 40) : ((exprE (depL j ++ x :: r)).2.1 = -1 ∧ (exprE (depL j ++ x :: r)).2.2 = 0) ∨ 4 * (j : Int) < (exprE (depL j ++ x :: r)).2.1 := by
  have up := dp_in j 40 ⟨0, 0, 0⟩ (dp_of j x r hx) rfl (by show 0 + j < 2000; omega) h
  dsimp only at up
  rcases expr_code (depL j ++ x :: r) with a | ⟨a, _, _⟩
  · exact .inl a
  · refine .inr ?_
    rw [a]; omega
end Lx

namespace Lx
def nW : List UInt8 → List Int → List Tk
  | _, [] => []
  | b, z :: r => (4, b, 0) :: (2, [], z) :: nW [44] r
def sepN (b : List UInt8) (nu : List Int) : List UInt8 := if nu = [] then b else [44]
mutual
def wordsX : Ex → List Tk
  | .mk op nm nu xs => if op = 0 then [(1, nm, 0)] else (1, opW.getD (op.toNat - 1) [], 0) :: (nW [40] nu ++ (aW (sepN [40] nu) xs ++ [(4, [41], 0)]))
def aW : List UInt8 → List Ex → List Tk
  | _, [] => []
  | b, x :: r => (4, b, 0) :: (wordsX x ++ aW [44] r)
end
mutual
def cnt : Ex → Nat
  | .mk _ _ _ xs => 1 + cnts xs
def cnts : List Ex → Nat
  | [] => 0
  | x :: r => cnt x + cnts r
end
def Ex.op : Ex → Int
  | .mk op _ _ _ => op
def Ex.nm : Ex → List UInt8
  | .mk _ nm _ _ => nm
/-- An expression whose parts have what they should have, of at most a depth. -/
def Ok : Nat → Ex → Prop
  | 0, _ => False
  | k + 1, .mk op nm nu xs => (op = 0 ∧ nu = [] ∧ xs = []) ∨ (1 ≤ op ∧ op ≤ 12 ∧ nm = [] ∧ nu.length = nuN op.toNat ∧ xs.length = arN op.toNat ∧ ∀ x ∈ xs, Ok k x)
/-- These tokens stand there. -/
def At (l : List Tk) (i : Nat) (ts : List Tk) : Prop := ∀ j (h : j < ts.length), tkAt l (i + j) = ts[j]
theorem At.app {l : List Tk} {i : Nat} {a b : List Tk} (h : At l i (a ++ b)) : At l i a ∧ At l (i + a.length) b := by
  refine ⟨fun j hj => ?_, fun j hj => ?_⟩
  · have := h j (by simp; omega)
    rw [this, List.getElem_append_left hj]
  · have := h (a.length + j) (by simp; omega)
    rw [show i + a.length + j = i + (a.length + j) by omega, this, List.getElem_append_right (by omega)]
    simp
theorem At.cons {l : List Tk} {i : Nat} {t : Tk} {r : List Tk} (h : At l i (t :: r)) : tkAt l i = t ∧ At l (i + 1) r := by
  refine ⟨h 0 (by simp), fun j hj => ?_⟩
  have := h (j + 1) (by simpa using hj)
  rw [show i + 1 + j = i + (j + 1) by omega, this]
  rfl
theorem at_self (l more : List Tk) : At (l ++ more) 0 l := fun j hj => by
  unfold tkAt
  rw [Nat.zero_add, List.getD_eq_getElem?_getD, List.getElem?_append_left hj, List.getElem?_eq_getElem hj]; rfl
theorem op_word (o : Nat) (h1 : 1 ≤ o) (h2 : o ≤ 12) : opN (opW.getD (o - 1) []) = o := by
  have : o = 1 ∨ o = 2 ∨ o = 3 ∨ o = 4 ∨ o = 5 ∨ o = 6 ∨ o = 7 ∨ o = 8 ∨ o = 9 ∨ o = 10 ∨ o = 11 ∨ o = 12 := by omega
  rcases this with rfl | rfl | rfl | rfl | rfl | rfl | rfl | rfl | rfl | rfl | rfl | rfl <;> decide
theorem ar_pos (o : Nat) (h1 : 1 ≤ o) (h2 : o ≤ 12) : 1 ≤ arN o := by
  have : o = 1 ∨ o = 2 ∨ o = 3 ∨ o = 4 ∨ o = 5 ∨ o = 6 ∨ o = 7 ∨ o = 8 ∨ o = 9 ∨ o = 10 ∨ o = 11 ∨ o = 12 := by omega
  rcases this with rfl | rfl | rfl | rfl | rfl | rfl | rfl | rfl | rfl | rfl | rfl | rfl <;> decide
theorem mark_ok {l : List Tk} {s : St} {b : List UInt8} (hw : s.wrong = 0) (h : tkAt l s.at_ = (4, b, 0)) : mark l s b = ⟨s.at_ + 1, s.parts, 0⟩ := by
  unfold mark; rw [show isMk l s.at_ b = true by unfold isMk; rw [h]; simp, take_t hw, hw]
theorem number_ok {l : List Tk} {s : St} {z : Int} (hw : s.wrong = 0) (h : tkAt l s.at_ = (2, [], z)) : number l s = (z, ⟨s.at_ + 1, s.parts, 0⟩) := by
  unfold number; rw [show isNu l s.at_ = true by unfold isNu; rw [h]; rfl, take_t hw, hw, h]
theorem nums_read (l : List Tk) : ∀ (nu : List Int) (b : List UInt8) (acc : List Int) (s : St), s.wrong = 0 → At l s.at_ (nW b nu) → numsL l nu.length b acc s = (acc ++ nu, sepN b nu, ⟨s.at_ + (nW b nu).length, s.parts, 0⟩)
  | [], b, acc, s, hw, h => by
    show (acc, b, s) = _
    rw [List.append_nil]
    show (acc, b, s) = (acc, b, (⟨s.at_ + 0, s.parts, 0⟩ : St))
    rw [← hw]; rfl
  | z :: r, b, acc, s, hw, h => by
    obtain ⟨h0, h⟩ := At.cons h
    obtain ⟨h1, h⟩ := At.cons h
    show numsL l r.length [44] (acc ++ [(number l (mark l s b)).1]) (number l (mark l s b)).2 = _
    have e1 := mark_ok hw h0
    rw [e1]
    have e2 := number_ok (s := ⟨s.at_ + 1, s.parts, 0⟩) rfl h1
    rw [e2]
    have ih := nums_read l r [44] (acc ++ [z]) ⟨s.at_ + 1 + 1, s.parts, 0⟩ rfl h
    rw [ih]
    have e3 : sepN b (z :: r) = [44] := rfl
    have e4 : sepN [44] r = [44] := by unfold sepN; split <;> rfl
    rw [e3, e4, List.append_assoc]
    show (acc ++ ([z] ++ r), [44], (⟨s.at_ + 1 + 1 + (nW [44] r).length, s.parts, 0⟩ : St)) = (acc ++ z :: r, [44], (⟨s.at_ + ((nW [44] r).length + 1 + 1), s.parts, 0⟩ : St))
    rw [show s.at_ + 1 + 1 + (nW [44] r).length = s.at_ + ((nW [44] r).length + 1 + 1) by omega]
    try rfl
/-- What part reads out of the words of an expression. -/
def Reads (k : Nat) (x : Ex) : Prop := ∀ (l : List Tk) (s : St), s.wrong = 0 → s.parts + cnt x ≤ 2000 → At l s.at_ (wordsX x) → (x.op = 0 → isMk l (s.at_ + 1) [40] = false) → part l k s = (x, ⟨s.at_ + (wordsX x).length, s.parts + cnt x, 0⟩)
theorem words_leaf {x : Ex} (h : x.op = 0) : wordsX x = [(1, x.nm, 0)] := by
  obtain ⟨op, nm, nu, xs⟩ := x
  have h : op = 0 := h
  rw [wordsX, if_pos h]; rfl
theorem args_read (l : List Tk) (k : Nat) : ∀ (xs : List Ex), (∀ x ∈ xs, Reads k x) → ∀ (b : List UInt8) (acc : List Ex) (s : St), s.wrong = 0 → s.parts + cnts xs ≤ 2000 → At l s.at_ (aW b xs) → isMk l (s.at_ + (aW b xs).length) [40] = false →
    (argsL l (part l k) xs.length b acc s).1 = acc ++ xs ∧ (argsL l (part l k) xs.length b acc s).2.2 = ⟨s.at_ + (aW b xs).length, s.parts + cnts xs, 0⟩
  | [], hR, b, acc, s, hw, hp, h, hn => by
    refine ⟨by rw [List.append_nil]; rfl, ?_⟩
    show s = (⟨s.at_ + 0, s.parts + 0, 0⟩ : St)
    rw [← hw]; rfl
  | x :: r, hR, b, acc, s, hw, hp, h, hn => by
    rw [aW] at h hn
    obtain ⟨h0, h⟩ := At.cons h
    obtain ⟨h1, h2⟩ := At.app h
    have hc : cnts (x :: r) = cnt x + cnts r := by rw [cnts]
    rw [hc] at hp
    have e1 := mark_ok hw h0
    have hnx : x.op = 0 → isMk l (s.at_ + 1 + 1) [40] = false := fun z => by
      have hl : (wordsX x).length = 1 := by rw [words_leaf z]; rfl
      cases r with
      | nil =>
        have e : s.at_ + ((4, b, 0) :: (wordsX x ++ aW [44] [])).length = s.at_ + 1 + 1 := by
          simp [aW, hl]
        rw [e] at hn; exact hn
      | cons y r' =>
        rw [aW] at h2
        obtain ⟨h3, _⟩ := At.cons h2
        rw [hl] at h3
        unfold isMk; rw [h3]; decide
    have e2 := hR x List.mem_cons_self l ⟨s.at_ + 1, s.parts, 0⟩ rfl (by show s.parts + cnt x ≤ 2000; omega) h1 hnx
    show (argsL l (part l k) (r.length + 1) b acc s).1 = _ ∧ (argsL l (part l k) (r.length + 1) b acc s).2.2 = _
    unfold argsL
    rw [e1, if_pos rfl, e2]
    have hn2 : isMk l (s.at_ + 1 + (wordsX x).length + (aW [44] r).length) [40] = false := by
      have e : s.at_ + ((4, b, 0) :: (wordsX x ++ aW [44] r)).length = s.at_ + 1 + (wordsX x).length + (aW [44] r).length := by simp; omega
      rw [e] at hn; exact hn
    have ih := args_read l k r (fun y hy => hR y (List.mem_cons_of_mem _ hy)) [44] (acc ++ [x]) ⟨s.at_ + 1 + (wordsX x).length, s.parts + cnt x, 0⟩ rfl (by show s.parts + cnt x + cnts r ≤ 2000; omega) h2 hn2
    refine ⟨by rw [ih.1, List.append_assoc]; rfl, ?_⟩
    rw [ih.2, hc, aW]
    show (⟨s.at_ + 1 + (wordsX x).length + (aW [44] r).length, s.parts + cnt x + cnts r, 0⟩ : St) = _
    rw [show s.at_ + ((4, b, 0) :: (wordsX x ++ aW [44] r)).length = s.at_ + 1 + (wordsX x).length + (aW [44] r).length by simp; omega, show s.parts + (cnt x + cnts r) = s.parts + cnt x + cnts r by omega]
theorem begun_ok {l : List Tk} {s : St} (hw : s.wrong = 0) (hp : s.parts < 2000) : begun l false s = ⟨s.at_, s.parts + 1, 0⟩ := by
  unfold begun; rw [if_neg (fun e => by rcases e.2.2 with z | z; cases z; omega), hw]
theorem name_ok {l : List Tk} {s : St} {w : List UInt8} (hw : s.wrong = 0) (h : tkAt l s.at_ = (1, w, 0)) : name l s = (w, ⟨s.at_ + 1, s.parts, 0⟩) := by
  unfold name; rw [show isNm l s.at_ = true by unfold isNm; rw [h]; rfl, take_t hw, hw, h]
theorem part_read : ∀ (k : Nat) (x : Ex), Ok k x → Reads k x
  | 0, _, h => h.elim
  | k + 1, .mk op nm nu xs, h => by
    intro l s hw hp ha hn
    have hc : cnt (.mk op nm nu xs) = 1 + cnts xs := by rw [cnt]
    rw [hc] at hp ⊢
    have eb := begun_ok (l := l) hw (by omega : s.parts < 2000)
    rcases h with ⟨rfl, rfl, rfl⟩ | ⟨h1, h2, rfl, h3, h4, h5⟩
    · have ew : wordsX (.mk 0 nm [] []) = [(1, nm, 0)] := words_leaf rfl
      rw [ew] at ha ⊢
      obtain ⟨t0, _⟩ := At.cons ha
      have en : name l (begun l false s) = (nm, ⟨s.at_ + 1, s.parts + 1, 0⟩) := by rw [eb]; exact name_ok rfl t0
      conv => lhs; unfold part
      rw [en, if_neg (fun z => by rw [hn rfl] at z; exact absurd z.2.2 (by decide))]
      rfl
    · have hz : ¬ op = 0 := by omega
      have ew : wordsX (.mk op [] nu xs) = (1, opW.getD (op.toNat - 1) [], 0) :: (nW [40] nu ++ (aW (sepN [40] nu) xs ++ [(4, [41], 0)])) := by rw [wordsX, if_neg hz]
      rw [ew] at ha ⊢
      obtain ⟨t0, ha⟩ := At.cons ha
      obtain ⟨a1, ha⟩ := At.app ha
      obtain ⟨a2, a3⟩ := At.app ha
      obtain ⟨a3, _⟩ := At.cons a3
      have en : name l (begun l false s) = (opW.getD (op.toNat - 1) [], ⟨s.at_ + 1, s.parts + 1, 0⟩) := by rw [eb]; exact name_ok rfl t0
      have eo : opN (opW.getD (op.toNat - 1) []) = op.toNat := op_word _ (by omega) (by omega)
      have xp : 1 ≤ xs.length := by rw [h4]; exact ar_pos _ (by omega) (by omega)
      have em : isMk l (s.at_ + 1) [40] = true := by
        cases nu with
        | nil =>
          cases xs with
          | nil => simp at xp
          | cons y r =>
            have e : aW (sepN [40] []) (y :: r) = (4, [40], 0) :: (wordsX y ++ aW [44] r) := by rw [aW]; rfl
            rw [e] at a2
            obtain ⟨t1, _⟩ := At.cons a2
            have t1 : tkAt l (s.at_ + 1 + 0) = (4, [40], 0) := t1
            unfold isMk; rw [Nat.add_zero] at t1; rw [t1]; rfl
        | cons z r =>
          obtain ⟨t1, _⟩ := At.cons a1
          unfold isMk; rw [t1]; rfl
      have eA : opA l op.toNat ⟨s.at_ + 1, s.parts + 1, 0⟩ = (nu, sepN [40] nu, ⟨s.at_ + 1 + (nW [40] nu).length, s.parts + 1, 0⟩) := by
        unfold opA
        rw [← h3, nums_read l nu [40] [] ⟨s.at_ + 1, s.parts + 1, 0⟩ rfl a1]
        rfl
      have hmk : isMk l (s.at_ + 1 + (nW [40] nu).length + (aW (sepN [40] nu) xs).length) [40] = false := by unfold isMk; rw [a3]; decide
      have eB := args_read l k xs (fun y hy => part_read k y (h5 y hy)) (sepN [40] nu) [] ⟨s.at_ + 1 + (nW [40] nu).length, s.parts + 1, 0⟩ rfl (by show s.parts + 1 + cnts xs ≤ 2000; omega) a2 hmk
      conv => lhs; unfold part
      rw [en, if_pos ⟨rfl, by rw [eo]; omega, em⟩]
      dsimp only
      rw [eo]
      unfold operands opB
      rw [eA]
      dsimp only
      rw [← h4, eB.1, eB.2]
      have e6 := mark_ok (l := l) (s := ⟨s.at_ + 1 + (nW [40] nu).length + (aW (sepN [40] nu) xs).length, s.parts + 1 + cnts xs, 0⟩) (b := [41]) rfl a3
      rw [e6, List.nil_append, show ((op.toNat : Nat) : Int) = op by omega]
      simp only [List.length_cons, List.length_append, List.length_nil]
      rw [show s.at_ + 1 + (nW [40] nu).length + (aW (sepN [40] nu) xs).length + 1 = s.at_ + ((nW [40] nu).length + ((aW (sepN [40] nu) xs).length + (0 + 1)) + 1) by omega, show s.parts + 1 + cnts xs = s.parts + (1 + cnts xs) by omega]
/-! The whole. -/
theorem wordsX_pos (x : Ex) : 1 ≤ (wordsX x).length := by
  obtain ⟨op, nm, nu, xs⟩ := x
  rw [wordsX]; split <;> simp
theorem tkAt_end (l : List Tk) : tkAt l l.length = (0, [], 0) := by
  unfold tkAt; rw [List.getD_eq_getElem?_getD, List.getElem?_eq_none (Nat.le_refl _)]; rfl
theorem part_whole {x : Ex} (h : Ok 40 x) (hc : cnt x ≤ 2000) (more : List Tk) (hm : x.op = 0 → isMk (wordsX x ++ more) 1 [40] = false) : part (wordsX x ++ more) 40 ⟨0, 0, 0⟩ = (x, ⟨(wordsX x).length, cnt x, 0⟩) := by
  have := part_read 40 x h (wordsX x ++ more) ⟨0, 0, 0⟩ rfl (by show 0 + cnt x ≤ 2000; omega) (at_self _ _) (fun z => by rw [Nat.zero_add]; exact hm z)
  rw [this, Nat.zero_add, Nat.zero_add]
/-- The words of an expression are that expression. -/
theorem back_all {x : Ex} (h : Ok 40 x) (hc : cnt x ≤ 2000) : exprE (wordsX x) = (x, -1, 0) := by
  have := part_whole h hc [] (fun z => by
    rw [List.append_nil, words_leaf z]; rfl)
  rw [List.append_nil] at this
  have ef : failed (wordsX x) ⟨(wordsX x).length, cnt x, 0⟩ = ⟨(wordsX x).length, cnt x, 0⟩ := by
    unfold failed; exact if_neg (fun z => absurd z.2 (Nat.lt_irrefl _))
  unfold exprE told
  rw [this]
  dsimp only
  rw [ef]
  exact if_pos rfl
/-- A word more may not stand there. -/
theorem back_more {x : Ex} (h : Ok 40 x) (hc : cnt x ≤ 2000) (t : Tk) (hm : (wordsX x).length = 1 → ¬ (t.1 = 4 ∧ t.2.1 = [40])) : (exprE (wordsX x ++ [t])).2.1 = ((wordsX x).length : Int) ∧ (exprE (wordsX x ++ [t])).2.2 = 110 := by
  have := part_whole h hc [t] (fun z => by
    have := hm (by rw [words_leaf z]; rfl)
    rw [words_leaf z]
    show decide _ = false
    exact decide_eq_false this)
  have ef : failed (wordsX x ++ [t]) ⟨(wordsX x).length, cnt x, 0⟩ = ⟨(wordsX x).length, cnt x, 110⟩ := by
    unfold failed; exact if_pos ⟨rfl, by simp⟩
  unfold exprE told
  rw [this]
  dsimp only
  rw [ef]
  exact ⟨rfl, rfl⟩
/-- Of the code 111 there stands a name. -/
structure Of (l : List Tk) (s t : St) : Prop where
  nm : s.wrong = 0 → t.wrong = 111 → isNm l t.at_ = true
theorem Of.trans {l : List Tk} {s t u : St} (h : Of l s t) (k : Of l t u) (o : On l t u) : Of l s u := ⟨fun a b => by
  by_cases z : t.wrong = 0
  · exact k.nm z b
  · have := o.stay z
    rw [this.1]; exact h.nm a (this.2.symm.trans b)⟩
theorem take_of (l : List Tk) (s : St) (b : Bool) : Of l s (take l s b).2 := ⟨fun a c => by
  unfold take at c
  rw [if_pos a] at c
  split at c
  · rw [show (⟨s.at_ + 1, s.parts, s.wrong⟩ : St).wrong = s.wrong from rfl, a] at c; exact absurd c (by decide)
  · exact absurd (show (110 : Int) = 111 from c) (by decide)⟩
theorem begun_of (l : List Tk) (z : Bool) (s : St) : Of l s (begun l z s) := ⟨fun a c => by
  unfold begun at c ⊢
  dsimp only at c ⊢
  split at c
  · rename_i h; exact h.2.1
  · rw [a] at c; exact absurd c (by decide)⟩
theorem Of.refl (l : List Tk) (s : St) : Of l s s := ⟨fun a b => by rw [a] at b; exact absurd b (by decide)⟩
theorem numsL_of (l : List Tk) : ∀ (n : Nat) (b : List UInt8) (acc : List Int) (s : St), Of l s (numsL l n b acc s).2.2
  | 0, b, acc, s => Of.refl l s
  | n + 1, b, acc, s => ((take_of l s _).trans (take_of l _ _) (number_on l _)).trans (numsL_of l n _ _ _) (numsL_on l n _ _ _)
theorem argsL_of (l : List Tk) (P : St → Ex × St) (hO : ∀ s, s.wrong = 0 → On l s (P s).2) (hP : ∀ s, s.wrong = 0 → Of l s (P s).2) : ∀ (n : Nat) (b : List UInt8) (acc : List Ex) (s : St), Of l s (argsL l P n b acc s).2.2
  | 0, b, acc, s => Of.refl l s
  | n + 1, b, acc, s => by
    unfold argsL
    split
    · rename_i z; exact (Of.trans (take_of l s _) (hP _ z) (hO _ z)).trans (argsL_of l P hO hP n _ _ _) (argsL_on l P hO n _ _ _)
    · exact Of.trans (take_of l s _) (argsL_of l P hO hP n _ _ _) (argsL_on l P hO n _ _ _)
theorem part_of (l : List Tk) : ∀ (k : Nat) (s : St), Of l s (part l k s).2
  | 0, s => (begun_of l true s).trans (take_of l _ _) (name_on l _)
  | k + 1, s => by
    have h1 : Of l s (name l (begun l false s)).2 := (begun_of l false s).trans (take_of l _ _) (name_on l _)
    unfold part
    split
    · have o1 := operands_on l (part l k) (fun s _ => part_on l k s) (opN (name l (begun l false s)).1) (name l (begun l false s)).2
      refine h1.trans ?_ o1
      unfold operands
      exact (Of.trans (numsL_of l _ _ _ _) (argsL_of l _ (fun s _ => part_on l k s) (fun s _ => part_of l k s) _ _ _ _) (argsL_on l _ (fun s _ => part_on l k s) _ _ _ _)).trans (take_of l _ _) (mark_on l _ _)
    · exact h1
/-- What is read whole out of a shorter list is read out of the longer one. -/
theorem part_cut {l l' : List Tk} {m k : Nat} (h : Agr l l' m) {s : St} (hs : s.at_ < m) (he : (part l' (k + 1) s).2.wrong = 0) (h2 : s.at_ + 2 ≤ (part l' (k + 1) s).2.at_) (h3 : (part l' (k + 1) s).2.at_ ≤ m) : part l (k + 1) s = part l' (k + 1) s := by
  have en : name l (begun l false s) = name l' (begun l' false s) := by rw [begun_agr h hs, name_agr h (by exact hs)]
  have a1 : (name l' (begun l' false s)).2.at_ ≤ s.at_ + 1 := by
    unfold name take
    split
    · split
      · exact Nat.le_refl _
      · exact Nat.le_succ _
    · exact Nat.le_succ _
  conv => lhs; unfold part
  conv => rhs; unfold part
  unfold part at he h2 h3
  obtain ⟨nx, hnx⟩ : ∃ z, name l' (begun l' false s) = z := ⟨_, rfl⟩
  rw [en]
  rw [hnx] at he h2 h3 a1 ⊢
  by_cases c : nx.2.wrong = 0 ∧ opN nx.1 ≠ 0 ∧ isMk l' nx.2.at_ [40] = true
  · rw [if_pos c] at he h2 h3
    have hx : nx.2.at_ < m := by omega
    rw [if_pos c, if_pos (by rw [isMk_agr h hx]; exact c)]
    have hsy := operands_sy h (part l k) (part l' k) (fun s _ => part_on l k s) (fun s _ => part_on l' k s) (fun s q => part_sy h k s q) (opN nx.1) nx.2 hx
    unfold operands at he h2 h3 ⊢
    -- the state ahead of the last mark
    have m1 : (opB l' (part l' k) (opN nx.1) nx.2).2.2.at_ < m := by
      by_cases w : (opB l' (part l' k) (opN nx.1) nx.2).2.2.wrong = 0
      · dsimp only at he h3
        unfold mark take at he h3
        rw [if_pos w] at he h3
        split at he
        · rename_i b; rw [if_pos b] at h3; exact h3
        · exact absurd (show (110 : Int) = 0 from he) (by decide)
      · exact absurd (((mark_on l' (opB l' (part l' k) (opN nx.1) nx.2).2.2 [41]).stay w).2.symm.trans he) w
    have e1 := numsL_sy h (nuN (opN nx.1)) [40] [] nx.2 hx
    have e2 : Sy m (pair (opB l (part l k) (opN nx.1) nx.2)) (pair (opB l' (part l' k) (opN nx.1) nx.2)) := by
      unfold opB opA
      exact e1.bind (fun x => pair (argsL l (part l k) (arN (opN nx.1)) x.1.2 [] x.2)) (fun x => pair (argsL l' (part l' k) (arN (opN nx.1)) x.1.2 [] x.2)) (argsL_on l _ (fun s _ => part_on l k s) _ _ _ _) (argsL_on l' _ (fun s _ => part_on l' k s) _ _ _ _) (fun _ q => argsL_sy h _ _ (fun s _ => part_on l k s) (fun s _ => part_on l' k s) (fun s q => part_sy h k s q) _ _ _ _ q)
    rcases e2 with ⟨e, q⟩ | ⟨_, q⟩
    · have i1 := congrArg (fun z => z.1.1) e
      have i3 := congrArg (fun z => z.2) e
      dsimp only [pair] at i1 i3
      have e0 : opA l (opN nx.1) nx.2 = opA l' (opN nx.1) nx.2 := by
        rcases e1 with ⟨e, _⟩ | ⟨_, q1⟩
        · have j1 := congrArg (fun z => z.1.1) e
          have j2 := congrArg (fun z => z.1.2) e
          have j3 := congrArg (fun z => z.2) e
          dsimp only [pair] at j1 j2 j3
          unfold opA
          exact Prod.ext j1 (Prod.ext j2 j3)
        · exfalso
          have up := (argsL_on l' (part l' k) (fun s _ => part_on l' k s) (arN (opN nx.1)) (opA l' (opN nx.1) nx.2).2.1 [] (opA l' (opN nx.1) nx.2).2.2).up
          have q1 : m ≤ (opA l' (opN nx.1) nx.2).2.2.at_ := q1
          have m1 : (argsL l' (part l' k) (arN (opN nx.1)) (opA l' (opN nx.1) nx.2).2.1 [] (opA l' (opN nx.1) nx.2).2.2).2.2.at_ < m := m1
          omega
      rw [e0, i1, i3, mark_agr h m1]
    · exact absurd m1 (by have q : m ≤ (opB l' (part l' k) (opN nx.1) nx.2).2.2.at_ := q; omega)
  · rw [if_neg c] at h2
    dsimp only at h2
    omega
/-- Cut off anywhere they are none, but for a name. -/
theorem back_cut {x : Ex} (h : Ok 40 x) (hc : cnt x ≤ 2000) (m : Nat) (hm : m < (wordsX x).length) (h1 : m ≠ 1) : (exprE ((wordsX x).take m)).2.1 = (m : Int) ∧ (exprE ((wordsX x).take m)).2.2 = 110 := by
  obtain ⟨l, hl⟩ : ∃ l, wordsX x = l := ⟨_, rfl⟩
  have hw : part l 40 ⟨0, 0, 0⟩ = (x, ⟨l.length, cnt x, 0⟩) := by
    have := part_whole h hc [] (fun z => by rw [List.append_nil, words_leaf z]; rfl)
    rw [List.append_nil, hl] at this; exact this
  rw [hl] at hm ⊢
  have hA : Agr l (l.take m) m := by
    have := agr_take l [] m (by omega)
    rwa [List.append_nil] at this
  have hlen : (l.take m).length = m := by rw [List.length_take]; omega
  have on' := part_on (l.take m) 40 ⟨0, 0, 0⟩
  have top := on'.top (Nat.zero_le _)
  rw [hlen] at top
  have lo : m ≤ (part (l.take m) 40 ⟨0, 0, 0⟩).2.at_ := by
    rcases Nat.eq_zero_or_pos m with z | z
    · omega
    · rcases part_sy hA 40 ⟨0, 0, 0⟩ z with ⟨_, q⟩ | ⟨_, q⟩
      · rw [hw] at q; exact absurd q (by show ¬ l.length < m; omega)
      · exact q
  have ea : (part (l.take m) 40 ⟨0, 0, 0⟩).2.at_ = m := by omega
  have nw : (part (l.take m) 40 ⟨0, 0, 0⟩).2.wrong ≠ 0 := by
    intro z
    rcases Nat.eq_zero_or_pos m with e | e
    · subst e
      rw [List.take_zero] at z
      exact absurd z (by decide)
    · have := part_cut (k := 39) hA (s := ⟨0, 0, 0⟩) e z (by rw [ea]; show 0 + 2 ≤ m; omega) (by omega)
      have e2 := congrArg (fun y : Ex × St => y.2.at_) this
      have e2 : (part (l.take m) 40 ⟨0, 0, 0⟩).2.at_ = (part l 40 ⟨0, 0, 0⟩).2.at_ := by first | exact e2 | exact e2.symm
      rw [ea] at e2
      have e3 : (part l 40 ⟨0, 0, 0⟩).2.at_ = l.length := by rw [hw]
      omega
  have hn : isNm (l.take m) m = false := by
    have := tkAt_end (l.take m)
    rw [hlen] at this
    unfold isNm; rw [this]; rfl
  have code : (part (l.take m) 40 ⟨0, 0, 0⟩).2.wrong = 110 := by
    rcases on'.code rfl with z | z | z
    · exact absurd z nw
    · exact z
    · have := (part_of (l.take m) 40 ⟨0, 0, 0⟩).nm rfl z
      rw [ea, hn] at this; cases this
  unfold exprE told
  have ef : failed (l.take m) (part (l.take m) 40 ⟨0, 0, 0⟩).2 = (part (l.take m) 40 ⟨0, 0, 0⟩).2 := by
    unfold failed; rw [if_neg (fun q => nw q.1)]
  rw [ef, if_neg nw]
  dsimp only
  rw [ea, code]
  exact ⟨rfl, rfl⟩
theorem back_one {x : Ex} (h : Ok 40 x) (hm : 1 < (wordsX x).length) : ∃ w, (wordsX x)[0]? = some (1, w, 0) ∧ exprE ((wordsX x).take 1) = (leaf w, -1, 0) := by
  obtain ⟨op, nm, nu, xs⟩ := x
  have hz : ¬ op = 0 := fun z => by rw [words_leaf (x := .mk op nm nu xs) z] at hm; simp at hm
  rw [wordsX, if_neg hz]
  refine ⟨_, rfl, ?_⟩
  show exprE [(1, opW.getD (op.toNat - 1) [], 0)] = _
  obtain ⟨w, hw⟩ : ∃ w, opW.getD (op.toNat - 1) [] = w := ⟨_, rfl⟩
  rw [hw]
  have eb := begun_ok (l := [(1, w, 0)]) (s := ⟨0, 0, 0⟩) rfl (by decide)
  have en : name [(1, w, 0)] (begun [(1, w, 0)] false ⟨0, 0, 0⟩) = (w, ⟨1, 1, 0⟩) := by rw [eb]; exact name_ok rfl rfl
  have ep : part [(1, w, 0)] 40 ⟨0, 0, 0⟩ = (leaf w, ⟨1, 1, 0⟩) := by
    unfold part
    have em : isMk [(1, w, 0)] 1 [40] = false := by simp [isMk, tkAt]
    rw [en, if_neg (fun z => by rw [em] at z; exact absurd z.2.2 (by decide))]
  unfold exprE told failed
  rw [ep]
  rfl
end Lx
end Go.Proofs.YtimjendkpjojoaaGreatDoor
