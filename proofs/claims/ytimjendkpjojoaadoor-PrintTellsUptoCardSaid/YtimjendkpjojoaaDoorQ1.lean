/- The reader of words, plainly. -/
import Derived.Test.YtimjendkpjojoaaDoorP1
namespace Go.Proofs.YtimjendkpjojoaaDoor
set_option linter.unusedVariables false
set_option linter.unusedSimpArgs false

namespace Lx
/-- An expression, as a tree. -/
inductive Ex where
  | mk (op : Int) (nm : List UInt8) (nums : List Int) (args : List Ex)
/-- How far the reader is: tokens read, parts begun, what was wrong. -/
structure St where
  at_ : Nat
  parts : Nat
  wrong : Int
def tkAt (l : List Tk) (i : Nat) : Tk := l.getD i (0, [], 0)
def isMk (l : List Tk) (i : Nat) (m : List UInt8) : Bool := decide ((tkAt l i).1 = 4 ∧ (tkAt l i).2.1 = m)
def isNm (l : List Tk) (i : Nat) : Bool := decide ((tkAt l i).1 = 1)
def isNu (l : List Tk) (i : Nat) : Bool := decide ((tkAt l i).1 = 2 ∨ (tkAt l i).1 = 3)
def take (l : List Tk) (s : St) (b : Bool) : Tk × St := if s.wrong = 0 then (if b = true then (tkAt l s.at_, ⟨s.at_ + 1, s.parts, s.wrong⟩) else ((0, [], 0), ⟨s.at_, s.parts, 110⟩)) else ((0, [], 0), s)
def mark (l : List Tk) (s : St) (m : List UInt8) : St := (take l s (isMk l s.at_ m)).2
def name (l : List Tk) (s : St) : List UInt8 × St := ((take l s (isNm l s.at_)).1.2.1, (take l s (isNm l s.at_)).2)
def number (l : List Tk) (s : St) : Int × St := ((take l s (isNu l s.at_)).1.2.2, (take l s (isNu l s.at_)).2)
/-- The operators' words. -/
def opW : List (List UInt8) := [[103, 114, 111, 117, 112], [115, 104, 105, 102, 116], [115, 117, 98, 115, 101, 116], [97, 108, 116, 101, 114], [99, 111, 109, 98, 105, 110, 101], [97, 110, 99, 104, 111, 114], [100, 111, 119, 110], [117, 112], [109, 101, 101, 116], [117, 110, 105, 111, 110], [99, 117, 116], [108, 101, 115, 115]]
def opGo : List (List UInt8) → Nat → List UInt8 → Nat
  | [], _, _ => 0
  | x :: r, i, w => if x = w then i else opGo r (i + 1) w
def opN (w : List UInt8) : Nat := opGo opW 1 w
def nuN (o : Nat) : Nat := ([0, 1, 1, 2, 3, 0, 0, 2, 0, 2, 0, 0, 0] : List Nat).getD o 0
def arN (o : Nat) : Nat := ([0, 1, 1, 1, 2, 2, 2, 2, 2, 2, 2, 2, 2] : List Nat).getD o 0
def leaf (w : List UInt8) : Ex := .mk 0 w [] []
def numsL (l : List Tk) : Nat → List UInt8 → List Int → St → List Int × List UInt8 × St
  | 0, b, acc, s => (acc, b, s)
  | n + 1, b, acc, s => numsL l n [44] (acc ++ [(number l (mark l s b)).1]) (number l (mark l s b)).2
def argsL (l : List Tk) (P : St → Ex × St) : Nat → List UInt8 → List Ex → St → List Ex × List UInt8 × St
  | 0, b, acc, s => (acc, b, s)
  | n + 1, b, acc, s => if (mark l s b).wrong = 0 then argsL l P n [44] (acc ++ [(P (mark l s b)).1]) (P (mark l s b)).2 else argsL l P n [44] acc (mark l s b)
def opA (l : List Tk) (o : Nat) (s : St) : List Int × List UInt8 × St := numsL l (nuN o) [40] [] s
def opB (l : List Tk) (P : St → Ex × St) (o : Nat) (s : St) : List Ex × List UInt8 × St := argsL l P (arN o) (opA l o s).2.1 [] (opA l o s).2.2
def operands (l : List Tk) (P : St → Ex × St) (o : Nat) (s : St) : Ex × St := (.mk o [] (opA l o s).1 (opB l P o s).1, mark l (opB l P o s).2.2 [41])
def begun (l : List Tk) (z : Bool) (s : St) : St := ⟨s.at_, s.parts + 1, if s.wrong = 0 ∧ isNm l s.at_ = true ∧ (z = true ∨ s.parts = 2000) then 111 else s.wrong⟩
def part (l : List Tk) : Nat → St → Ex × St
  | 0, s => (leaf (name l (begun l true s)).1, (name l (begun l true s)).2)
  | k + 1, s => if (name l (begun l false s)).2.wrong = 0 ∧ opN (name l (begun l false s)).1 ≠ 0 ∧ isMk l (name l (begun l false s)).2.at_ [40] = true then operands l (part l k) (opN (name l (begun l false s)).1) (name l (begun l false s)).2
    else (leaf (name l (begun l false s)).1, (name l (begun l false s)).2)
def failed (l : List Tk) (s : St) : St := if s.wrong = 0 ∧ s.at_ < l.length then ⟨s.at_, s.parts, 110⟩ else s
def told {α : Type} (l : List Tk) (z : α) (r : α × St) : α × Int × Int := if (failed l r.2).wrong = 0 then (r.1, -1, 0) else (z, ((failed l r.2).at_ : Int), (failed l r.2).wrong)
def exprE (l : List Tk) : Ex × Int × Int := told l (leaf []) (part l 40 ⟨0, 0, 0⟩)
structure Rg where
  low : Int
  high : Int
  hl : Bool
  hh : Bool
structure Cm where
  word : List UInt8
  names : List (List UInt8)
  nums : List Int
  rg : Rg
  ex : Ex
def noCm : Cm := ⟨[], [], [], ⟨0, 0, false, false⟩, leaf []⟩
/-- One end of a range. -/
def endE (l : List Tk) (s : St) : (Int × Bool) × St := if s.wrong ≠ 0 ∨ isNu l s.at_ = false then ((0, false), s) else (((number l s).1, true), (number l s).2)
def rgA (l : List Tk) (s : St) : (Int × Bool) × St := endE l (mark l s [91])
def rgB (l : List Tk) (s : St) : (Int × Bool) × St := endE l (mark l (rgA l s).2 [58])
def span (l : List Tk) (s : St) : Rg × St := (⟨(rgA l s).1.1, (rgB l s).1.1, (rgA l s).1.2, (rgB l s).1.2⟩, mark l (rgB l s).2 [93])
def stepC (l : List Tk) (c : Cm × St) (x : UInt8) : Cm × St :=
  if x = 110 then (⟨c.1.word, c.1.names ++ [(name l c.2).1], c.1.nums, c.1.rg, c.1.ex⟩, (name l c.2).2)
  else if x = 105 then (⟨c.1.word, c.1.names, c.1.nums ++ [(number l c.2).1], c.1.rg, c.1.ex⟩, (number l c.2).2)
  else if x = 101 then (⟨c.1.word, c.1.names, c.1.nums, c.1.rg, (part l 40 c.2).1⟩, (part l 40 c.2).2)
  else if x = 114 then (⟨c.1.word, c.1.names, c.1.nums, (span l c.2).1, c.1.ex⟩, (span l c.2).2)
  else (c.1, mark l c.2 [x])
def shapes : List (List UInt8 × List UInt8) := [([100, 101, 102, 105, 110, 101], [110, 61, 101]), ([100, 114, 111, 112], [110]), ([115, 104, 111, 119], [110]), ([102, 111, 114, 109], [110]), ([118, 97, 114], [110]), ([101, 120, 116, 101, 110, 116], [110, 105]), ([103, 114, 97, 110, 117, 108, 101], [110, 105]), ([110, 101, 120, 116], [110, 105]), ([112, 114, 101, 118], [110, 105]), ([115, 112, 97, 110], [110, 105]), ([114, 101, 108], [110, 110]), ([99, 111, 118, 101, 114], [110, 110, 105]), ([98, 111, 117, 110, 100], [110, 110, 110, 114]), ([100, 97, 116, 101], [105]), ([115, 111, 108, 118, 101], [105, 105, 105]), ([110, 101, 116], []), ([105, 110, 102, 101, 114], []), ([114, 101, 115, 101, 116], [])]
def shGo : List (List UInt8 × List UInt8) → List UInt8 → Option (List UInt8)
  | [], _ => none
  | x :: r, w => if w = x.1 then some x.2 else shGo r w
def shape (w : List UInt8) : Option (List UInt8) := shGo shapes w
def cmE (l : List Tk) : Cm × Int × Int := match shape (name l ⟨0, 0, 0⟩).1 with
  | none => (noCm, 0, 110)
  | some sh => if (name l ⟨0, 0, 0⟩).2.wrong ≠ 0 then (noCm, 0, 110) else told l noCm (sh.foldl (stepC l) (⟨(name l ⟨0, 0, 0⟩).1, [], [], ⟨0, 0, false, false⟩, leaf []⟩, (name l ⟨0, 0, 0⟩).2))
/-! Going on. -/
theorem tkAt_lt {l : List Tk} {i : Nat} (h : (tkAt l i).1 ≠ 0) : i < l.length := by
  rcases Nat.lt_or_ge i l.length with q | q
  · exact q
  · unfold tkAt at h; rw [List.getD_eq_getElem?_getD, List.getElem?_eq_none q] at h; exact absurd rfl h
theorem isMk_lt {l : List Tk} {i : Nat} {m : List UInt8} (h : isMk l i m = true) : i < l.length := by
  have := of_decide_eq_true h; exact tkAt_lt (by rw [this.1]; decide)
theorem isNm_lt {l : List Tk} {i : Nat} (h : isNm l i = true) : i < l.length := by
  have := of_decide_eq_true h; exact tkAt_lt (by rw [this]; decide)
theorem isNu_lt {l : List Tk} {i : Nat} (h : isNu l i = true) : i < l.length := by
  have := of_decide_eq_true h
  refine tkAt_lt ?_
  rcases this with e | e <;> rw [e] <;> decide
/-- What reading may do to where the reader is. -/
structure On (l : List Tk) (s t : St) : Prop where
  up : s.at_ ≤ t.at_
  top : s.at_ ≤ l.length → t.at_ ≤ l.length
  stay : s.wrong ≠ 0 → t.at_ = s.at_ ∧ t.wrong = s.wrong
  code : s.wrong = 0 → t.wrong = 0 ∨ t.wrong = 110 ∨ t.wrong = 111
theorem On.refl (l : List Tk) (s : St) : On l s s := ⟨Nat.le_refl _, id, fun _ => ⟨rfl, rfl⟩, fun h => .inl h⟩
theorem On.trans {l : List Tk} {s t u : St} (h : On l s t) (k : On l t u) : On l s u := by
  refine ⟨Nat.le_trans h.up k.up, fun q => k.top (h.top q), fun q => ?_, fun q => ?_⟩
  · have a := h.stay q
    have b := k.stay (by rw [a.2]; exact q)
    exact ⟨b.1.trans a.1, b.2.trans a.2⟩
  · by_cases z : t.wrong = 0
    · exact k.code z
    · rw [(k.stay z).2]; exact h.code q
theorem take_on {l : List Tk} {s : St} {b : Bool} (hb : b = true → s.at_ < l.length) : On l s (take l s b).2 := by
  unfold take
  by_cases h : s.wrong = 0
  · rw [if_pos h]
    by_cases q : b = true
    · rw [if_pos q]; have := hb q; exact ⟨Nat.le_succ _, fun _ => this, fun z => absurd h z, fun _ => .inl h⟩
    · rw [if_neg q]; exact ⟨Nat.le_refl _, id, fun z => absurd h z, fun _ => .inr (.inl rfl)⟩
  · rw [if_neg h]; exact On.refl l s
theorem take_parts (l : List Tk) (s : St) (b : Bool) : (take l s b).2.parts = s.parts := by
  unfold take; split
  · split <;> rfl
  · rfl
theorem mark_on (l : List Tk) (s : St) (m : List UInt8) : On l s (mark l s m) := take_on isMk_lt
theorem name_on (l : List Tk) (s : St) : On l s (name l s).2 := take_on isNm_lt
theorem number_on (l : List Tk) (s : St) : On l s (number l s).2 := take_on isNu_lt
theorem numsL_on (l : List Tk) : ∀ (n : Nat) (b : List UInt8) (acc : List Int) (s : St), On l s (numsL l n b acc s).2.2
  | 0, b, acc, s => On.refl l s
  | n + 1, b, acc, s => ((mark_on l s b).trans (number_on l _)).trans (numsL_on l n _ _ _)
theorem argsL_on (l : List Tk) (P : St → Ex × St) (hP : ∀ s, s.wrong = 0 → On l s (P s).2) : ∀ (n : Nat) (b : List UInt8) (acc : List Ex) (s : St), On l s (argsL l P n b acc s).2.2
  | 0, b, acc, s => On.refl l s
  | n + 1, b, acc, s => by
    unfold argsL
    by_cases h : (mark l s b).wrong = 0
    · rw [if_pos h]; exact ((mark_on l s b).trans (hP _ h)).trans (argsL_on l P hP n _ _ _)
    · rw [if_neg h]; exact (mark_on l s b).trans (argsL_on l P hP n _ _ _)
theorem operands_on (l : List Tk) (P : St → Ex × St) (hP : ∀ s, s.wrong = 0 → On l s (P s).2) (o : Nat) (s : St) : On l s (operands l P o s).2 :=
  ((numsL_on l _ _ _ s).trans (argsL_on l P hP _ _ _ _)).trans (mark_on l _ _)
theorem begun_on (l : List Tk) (z : Bool) (s : St) : On l s (begun l z s) := by
  refine ⟨Nat.le_refl _, id, fun h => ⟨rfl, ?_⟩, fun h => ?_⟩
  · unfold begun; dsimp only; rw [if_neg (fun q => h q.1)]
  · unfold begun; dsimp only
    split
    · exact .inr (.inr rfl)
    · exact .inl h
theorem part_on (l : List Tk) : ∀ (k : Nat) (s : St), On l s (part l k s).2
  | 0, s => (begun_on l true s).trans (name_on l _)
  | k + 1, s => by
    unfold part
    split
    · exact ((begun_on l false s).trans (name_on l _)).trans (operands_on l _ (fun s _ => part_on l k s) _ _)
    · exact (begun_on l false s).trans (name_on l _)
theorem endE_on (l : List Tk) (s : St) : On l s (endE l s).2 := by
  unfold endE
  split
  · exact On.refl l s
  · exact number_on l s
theorem span_on (l : List Tk) (s : St) : On l s (span l s).2 := (((mark_on l s _).trans (endE_on l _)).trans ((mark_on l _ _).trans (endE_on l _))).trans (mark_on l _ _)
theorem stepC_on (l : List Tk) (c : Cm × St) (x : UInt8) : On l c.2 (stepC l c x).2 := by
  unfold stepC
  split
  · exact name_on l _
  · split
    · exact number_on l _
    · split
      · exact part_on l 40 _
      · split
        · exact span_on l _
        · exact mark_on l _ _
theorem steps_on (l : List Tk) : ∀ (sh : List UInt8) (c : Cm × St), On l c.2 (sh.foldl (stepC l) c).2
  | [], c => On.refl l _
  | x :: r, c => (stepC_on l c x).trans (steps_on l r _)
/-! Two lists that begin alike. -/
def Agr (l l' : List Tk) (m : Nat) : Prop := ∀ i, i < m → tkAt l i = tkAt l' i
def Sy {α : Type} (m : Nat) (x y : α × St) : Prop := (x = y ∧ x.2.at_ < m) ∨ (m ≤ x.2.at_ ∧ m ≤ y.2.at_)
theorem Sy.mk' {α : Type} {m : Nat} {x y : α × St} (h : x = y) : Sy m x y := by
  rcases Nat.lt_or_ge x.2.at_ m with q | q
  · exact .inl ⟨h, q⟩
  · exact .inr ⟨q, by rw [← h]; exact q⟩
theorem Sy.far {α β : Type} {l l' : List Tk} {m : Nat} {x y : α × St} (h1 : m ≤ x.2.at_) (h2 : m ≤ y.2.at_) {u v : β × St} (a : On l x.2 u.2) (b : On l' y.2 v.2) : Sy m u v := .inr ⟨Nat.le_trans h1 a.up, Nat.le_trans h2 b.up⟩
/-- Two ways, one behind the other. -/
theorem Sy.bind {α β : Type} {l l' : List Tk} {m : Nat} {x y : α × St} (h : Sy m x y) (f g : α × St → β × St) (hf : On l x.2 (f x).2) (hg : On l' y.2 (g y).2) (he : x = y → x.2.at_ < m → Sy m (f x) (g x)) : Sy m (f x) (g y) := by
  rcases h with ⟨e, q⟩ | ⟨a, b⟩
  · have := he e q; subst e; exact this
  · exact .inr ⟨Nat.le_trans a hf.up, Nat.le_trans b hg.up⟩
theorem isMk_agr {l l' : List Tk} {m i : Nat} (h : Agr l l' m) (hi : i < m) (k : List UInt8) : isMk l i k = isMk l' i k := by unfold isMk; rw [h i hi]
theorem isNm_agr {l l' : List Tk} {m i : Nat} (h : Agr l l' m) (hi : i < m) : isNm l i = isNm l' i := by unfold isNm; rw [h i hi]
theorem isNu_agr {l l' : List Tk} {m i : Nat} (h : Agr l l' m) (hi : i < m) : isNu l i = isNu l' i := by unfold isNu; rw [h i hi]
theorem take_agr {l l' : List Tk} {m : Nat} (h : Agr l l' m) {s : St} (hs : s.at_ < m) (b : Bool) : take l s b = take l' s b := by unfold take; rw [h _ hs]
theorem mark_agr {l l' : List Tk} {m : Nat} (h : Agr l l' m) {s : St} (hs : s.at_ < m) (k : List UInt8) : mark l s k = mark l' s k := by unfold mark; rw [isMk_agr h hs, take_agr h hs]
theorem name_agr {l l' : List Tk} {m : Nat} (h : Agr l l' m) {s : St} (hs : s.at_ < m) : name l s = name l' s := by unfold name; rw [isNm_agr h hs, take_agr h hs]
theorem number_agr {l l' : List Tk} {m : Nat} (h : Agr l l' m) {s : St} (hs : s.at_ < m) : number l s = number l' s := by unfold number; rw [isNu_agr h hs, take_agr h hs]
theorem begun_agr {l l' : List Tk} {m : Nat} (h : Agr l l' m) {s : St} (hs : s.at_ < m) (z : Bool) : begun l z s = begun l' z s := by unfold begun; rw [isNm_agr h hs]
def unit (s : St) : Unit × St := ((), s)
def pair {α β : Type} (r : α × β × St) : (α × β) × St := ((r.1, r.2.1), r.2.2)
theorem numsL_sy {l l' : List Tk} {m : Nat} (h : Agr l l' m) : ∀ (n : Nat) (b : List UInt8) (acc : List Int) (s : St), s.at_ < m → Sy m (pair (numsL l n b acc s)) (pair (numsL l' n b acc s))
  | 0, b, acc, s, hs => Sy.mk' rfl
  | n + 1, b, acc, s, hs => by
    have e1 : Sy m (unit (mark l s b)) (unit (mark l' s b)) := Sy.mk' (by rw [mark_agr h hs])
    have e2 : Sy m (number l (mark l s b)) (number l' (mark l' s b)) := e1.bind (fun x => number l x.2) (fun x => number l' x.2) (number_on l _) (number_on l' _) (fun _ q => Sy.mk' (by rw [number_agr h q]))
    exact e2.bind (fun x => pair (numsL l n [44] (acc ++ [x.1]) x.2)) (fun x => pair (numsL l' n [44] (acc ++ [x.1]) x.2)) (numsL_on l _ _ _ _) (numsL_on l' _ _ _ _) (fun _ q => numsL_sy h n _ _ _ q)
theorem argsL_sy {l l' : List Tk} {m : Nat} (h : Agr l l' m) (P P' : St → Ex × St) (hP : ∀ s, s.wrong = 0 → On l s (P s).2) (hP' : ∀ s, s.wrong = 0 → On l' s (P' s).2) (hS : ∀ s, s.at_ < m → Sy m (P s) (P' s)) : ∀ (n : Nat) (b : List UInt8) (acc : List Ex) (s : St), s.at_ < m → Sy m (pair (argsL l P n b acc s)) (pair (argsL l' P' n b acc s))
  | 0, b, acc, s, hs => Sy.mk' rfl
  | n + 1, b, acc, s, hs => by
    have e1 : Sy m (unit (mark l s b)) (unit (mark l' s b)) := Sy.mk' (by rw [mark_agr h hs])
    have on1 : ∀ t : St, On l t (if t.wrong = 0 then argsL l P n [44] (acc ++ [(P t).1]) (P t).2 else argsL l P n [44] acc t).2.2 := fun t => by
      split
      · rename_i z; exact (hP _ z).trans (argsL_on l P hP n _ _ _)
      · exact argsL_on l P hP n _ _ _
    have on2 : ∀ t : St, On l' t (if t.wrong = 0 then argsL l' P' n [44] (acc ++ [(P' t).1]) (P' t).2 else argsL l' P' n [44] acc t).2.2 := fun t => by
      split
      · rename_i z; exact (hP' _ z).trans (argsL_on l' P' hP' n _ _ _)
      · exact argsL_on l' P' hP' n _ _ _
    refine e1.bind (fun x => pair (if x.2.wrong = 0 then argsL l P n [44] (acc ++ [(P x.2).1]) (P x.2).2 else argsL l P n [44] acc x.2)) (fun x => pair (if x.2.wrong = 0 then argsL l' P' n [44] (acc ++ [(P' x.2).1]) (P' x.2).2 else argsL l' P' n [44] acc x.2)) (on1 _) (on2 _) (fun _ q => ?_)
    obtain ⟨t, ht⟩ : ∃ t, unit (mark l s b) = ((), t) := ⟨_, rfl⟩
    rw [ht] at q ⊢
    dsimp only at q ⊢
    by_cases z : t.wrong = 0
    · rw [if_pos z, if_pos z]
      exact (hS t q).bind (fun x => pair (argsL l P n [44] (acc ++ [x.1]) x.2)) (fun x => pair (argsL l' P' n [44] (acc ++ [x.1]) x.2)) (argsL_on l P hP _ _ _ _) (argsL_on l' P' hP' _ _ _ _) (fun _ q => argsL_sy h P P' hP hP' hS n _ _ _ q)
    · rw [if_neg z, if_neg z]
      exact argsL_sy h P P' hP hP' hS n _ _ _ q
theorem operands_sy {l l' : List Tk} {m : Nat} (h : Agr l l' m) (P P' : St → Ex × St) (hP : ∀ s, s.wrong = 0 → On l s (P s).2) (hP' : ∀ s, s.wrong = 0 → On l' s (P' s).2) (hS : ∀ s, s.at_ < m → Sy m (P s) (P' s)) (o : Nat) (s : St) (hs : s.at_ < m) : Sy m (operands l P o s) (operands l' P' o s) := by
  have e1 := numsL_sy h (nuN o) [40] [] s hs
  have e2 := e1.bind (β := (List Int × List UInt8) × List Ex × List UInt8) (fun x => ((x.1, (argsL l P (arN o) x.1.2 [] x.2).1, (argsL l P (arN o) x.1.2 [] x.2).2.1), (argsL l P (arN o) x.1.2 [] x.2).2.2)) (fun x => ((x.1, (argsL l' P' (arN o) x.1.2 [] x.2).1, (argsL l' P' (arN o) x.1.2 [] x.2).2.1), (argsL l' P' (arN o) x.1.2 [] x.2).2.2)) (argsL_on l P hP _ _ _ _) (argsL_on l' P' hP' _ _ _ _) (fun _ q => by
    obtain ⟨x, hx⟩ : ∃ x, pair (numsL l (nuN o) [40] [] s) = x := ⟨_, rfl⟩
    rw [hx] at q ⊢
    rcases argsL_sy h P P' hP hP' hS (arN o) x.1.2 [] x.2 q with ⟨e, q'⟩ | ⟨a, b⟩
    · refine .inl ⟨?_, q'⟩
      have i1 := congrArg (fun z => z.1.1) e
      have i2 := congrArg (fun z => z.1.2) e
      have i3 := congrArg (fun z => z.2) e
      dsimp only [pair] at i1 i2 i3 ⊢
      rw [i1, i2, i3]
    · exact .inr ⟨a, b⟩)
  exact e2.bind (fun x => (Ex.mk o [] x.1.1.1 x.1.2.1, mark l x.2 [41])) (fun x => (Ex.mk o [] x.1.1.1 x.1.2.1, mark l' x.2 [41])) (mark_on l _ _) (mark_on l' _ _) (fun _ q => Sy.mk' (by rw [mark_agr h q]))
theorem part_sy {l l' : List Tk} {m : Nat} (h : Agr l l' m) : ∀ (k : Nat) (s : St), s.at_ < m → Sy m (part l k s) (part l' k s)
  | 0, s, hs => by
    unfold part
    have e1 : Sy m (name l (begun l true s)) (name l' (begun l' true s)) := Sy.mk' (by rw [begun_agr h hs, name_agr h (by exact hs)])
    exact e1.bind (fun x => (leaf x.1, x.2)) (fun x => (leaf x.1, x.2)) (On.refl l _) (On.refl l' _) (fun _ q => Sy.mk' rfl)
  | k + 1, s, hs => by
    have e1 : Sy m (name l (begun l false s)) (name l' (begun l' false s)) := Sy.mk' (by rw [begun_agr h hs, name_agr h (by exact hs)])
    have on1 : ∀ (L : List Tk) (x : List UInt8 × St), On L x.2 (if x.2.wrong = 0 ∧ opN x.1 ≠ 0 ∧ isMk L x.2.at_ [40] = true then operands L (part L k) (opN x.1) x.2 else (leaf x.1, x.2)).2 := fun L x => by
      split
      · exact operands_on L _ (fun s _ => part_on L k s) _ _
      · exact On.refl L _
    exact e1.bind (fun x => if x.2.wrong = 0 ∧ opN x.1 ≠ 0 ∧ isMk l x.2.at_ [40] = true then operands l (part l k) (opN x.1) x.2 else (leaf x.1, x.2)) (fun x => if x.2.wrong = 0 ∧ opN x.1 ≠ 0 ∧ isMk l' x.2.at_ [40] = true then operands l' (part l' k) (opN x.1) x.2 else (leaf x.1, x.2)) (on1 l _) (on1 l' _) (fun _ q => by
      rw [isMk_agr h q]
      split
      · exact operands_sy h _ _ (fun s _ => part_on l k s) (fun s _ => part_on l' k s) (fun s q => part_sy h k s q) _ _ q
      · exact Sy.mk' rfl)
theorem endE_sy {l l' : List Tk} {m : Nat} (h : Agr l l' m) {s : St} (hs : s.at_ < m) : endE l s = endE l' s := by unfold endE; rw [isNu_agr h hs, number_agr h hs]
theorem span_sy {l l' : List Tk} {m : Nat} (h : Agr l l' m) (s : St) (hs : s.at_ < m) : Sy m (span l s) (span l' s) := by
  have e1 : Sy m (unit (mark l s [91])) (unit (mark l' s [91])) := Sy.mk' (by rw [mark_agr h hs])
  have e2 : Sy m (rgA l s) (rgA l' s) := e1.bind (fun x => endE l x.2) (fun x => endE l' x.2) (endE_on l _) (endE_on l' _) (fun _ q => Sy.mk' (by rw [endE_sy h q]))
  have e3 := e2.bind (β := Int × Bool) (fun x => (x.1, mark l x.2 [58])) (fun x => (x.1, mark l' x.2 [58])) (mark_on l _ _) (mark_on l' _ _) (fun _ q => Sy.mk' (by rw [mark_agr h q]))
  have e4 := e3.bind (β := (Int × Bool) × (Int × Bool)) (fun x => ((x.1, (endE l x.2).1), (endE l x.2).2)) (fun x => ((x.1, (endE l' x.2).1), (endE l' x.2).2)) (endE_on l _) (endE_on l' _) (fun _ q => Sy.mk' (by rw [endE_sy h q]))
  exact e4.bind (fun x => ((⟨x.1.1.1, x.1.2.1, x.1.1.2, x.1.2.2⟩ : Rg), mark l x.2 [93])) (fun x => ((⟨x.1.1.1, x.1.2.1, x.1.1.2, x.1.2.2⟩ : Rg), mark l' x.2 [93])) (mark_on l _ _) (mark_on l' _ _) (fun _ q => Sy.mk' (by rw [mark_agr h q]))
theorem stepC_sy {l l' : List Tk} {m : Nat} (h : Agr l l' m) (c : Cm × St) (hs : c.2.at_ < m) (x : UInt8) : Sy m (stepC l c x) (stepC l' c x) := by
  unfold stepC
  split
  · exact Sy.mk' (by rw [name_agr h hs])
  · split
    · exact Sy.mk' (by rw [number_agr h hs])
    · split
      · exact (part_sy h 40 c.2 hs).bind (fun y => ((⟨c.1.word, c.1.names, c.1.nums, c.1.rg, y.1⟩ : Cm), y.2)) (fun y => ((⟨c.1.word, c.1.names, c.1.nums, c.1.rg, y.1⟩ : Cm), y.2)) (On.refl l _) (On.refl l' _) (fun _ _ => Sy.mk' rfl)
      · split
        · exact (span_sy h c.2 hs).bind (fun y => ((⟨c.1.word, c.1.names, c.1.nums, y.1, c.1.ex⟩ : Cm), y.2)) (fun y => ((⟨c.1.word, c.1.names, c.1.nums, y.1, c.1.ex⟩ : Cm), y.2)) (On.refl l _) (On.refl l' _) (fun _ _ => Sy.mk' rfl)
        · exact Sy.mk' (by rw [mark_agr h hs])
theorem steps_sy {l l' : List Tk} {m : Nat} (h : Agr l l' m) : ∀ (sh : List UInt8) (c : Cm × St), c.2.at_ < m → Sy m (sh.foldl (stepC l) c) (sh.foldl (stepC l') c)
  | [], c, _ => Sy.mk' rfl
  | x :: r, c, hs => (stepC_sy h c hs x).bind (fun c => r.foldl (stepC l) c) (fun c => r.foldl (stepC l') c) (steps_on l r _) (steps_on l' r _) (fun _ q => steps_sy h r _ q)
theorem failed_at (l : List Tk) (s : St) : (failed l s).at_ = s.at_ := by unfold failed; split <;> rfl
theorem told_code {α : Type} {l : List Tk} {z : α} {r : α × St} (h : r.2.wrong = 0 ∨ r.2.wrong = 110 ∨ r.2.wrong = 111) (ht : r.2.at_ ≤ l.length) :
    ((told l z r).2.1 = -1 ∧ (told l z r).2.2 = 0) ∨ ((told l z r).2.1 = (r.2.at_ : Int) ∧ ((told l z r).2.2 = 110 ∨ (told l z r).2.2 = 111)) := by
  unfold told
  by_cases q : (failed l r.2).wrong = 0
  · rw [if_pos q]; exact .inl ⟨rfl, rfl⟩
  · rw [if_neg q]
    refine .inr ⟨by rw [failed_at], ?_⟩
    show (failed l r.2).wrong = 110 ∨ (failed l r.2).wrong = 111
    unfold failed at q ⊢
    split
    · exact .inl rfl
    · rename_i z; rw [if_neg z] at q; rcases h with h | h
      · exact absurd h q
      · exact h
theorem expr_code (l : List Tk) : ((exprE l).2.1 = -1 ∧ (exprE l).2.2 = 0) ∨ ((exprE l).2.1 = ((part l 40 ⟨0, 0, 0⟩).2.at_ : Int) ∧ (part l 40 ⟨0, 0, 0⟩).2.at_ ≤ l.length ∧ ((exprE l).2.2 = 110 ∨ (exprE l).2.2 = 111)) := by
  have h := part_on l 40 ⟨0, 0, 0⟩
  have t := h.top (Nat.zero_le _)
  rcases told_code (z := leaf []) (h.code rfl) t with a | a
  · exact .inl a
  · exact .inr ⟨a.1, t, a.2⟩
theorem agr_take (l more : List Tk) (m : Nat) (h : m ≤ l.length) : Agr l (l.take m ++ more) m := fun i hi => by
  unfold tkAt
  rw [List.getD_eq_getElem?_getD, List.getD_eq_getElem?_getD, List.getElem?_append_left (by rw [List.length_take]; omega), List.getElem?_take_of_lt hi]
/-- Where an expression's error is: others behind make it that place, or a later one. -/
theorem expr_place (l more : List Tk) (h : (exprE l).2.2 ≠ 0) (m : Nat) (hm : (exprE l).2.1 = (m : Int)) : m ≤ l.length ∧ ((exprE (l.take m ++ more)).2.2 ≠ 0 → (m : Int) ≤ (exprE (l.take m ++ more)).2.1) := by
  rcases expr_code l with a | ⟨a, b, _⟩
  · exact absurd a.2 h
  · have e : (part l 40 ⟨0, 0, 0⟩).2.at_ = m := by omega
    have hml : m ≤ l.length := by omega
    refine ⟨hml, fun q => ?_⟩
    rcases expr_code (l.take m ++ more) with a' | ⟨a', _, _⟩
    · exact absurd a'.2 q
    · rw [a']
      rcases Nat.eq_zero_or_pos m with z | z
      · omega
      · rcases part_sy (agr_take l more m hml) 40 ⟨0, 0, 0⟩ z with ⟨_, g⟩ | ⟨_, g⟩
        · omega
        · omega
theorem cm_code (l : List Tk) : ((cmE l).2.1 = -1 ∧ (cmE l).2.2 = 0) ∨ (0 ≤ (cmE l).2.1 ∧ (cmE l).2.1 ≤ l.length ∧ ((cmE l).2.2 = 110 ∨ (cmE l).2.2 = 111)) := by
  unfold cmE
  cases shape (name l ⟨0, 0, 0⟩).1 with
  | none => exact .inr ⟨Int.le_refl _, by simp, .inl rfl⟩
  | some sh =>
    dsimp only
    split
    · exact .inr ⟨Int.le_refl _, by simp, .inl rfl⟩
    · have h := (name_on l ⟨0, 0, 0⟩).trans (steps_on l sh (⟨(name l ⟨0, 0, 0⟩).1, [], [], ⟨0, 0, false, false⟩, leaf []⟩, (name l ⟨0, 0, 0⟩).2))
      have t := h.top (Nat.zero_le _)
      rcases told_code (z := noCm) (h.code rfl) t with a | a
      · exact .inl a
      · exact .inr ⟨by rw [a.1]; omega, by rw [a.1]; exact Int.ofNat_le.2 t, a.2⟩
theorem cm_place (l more : List Tk) (h : (cmE l).2.2 ≠ 0) (m : Nat) (hm : (cmE l).2.1 = (m : Int)) (h0 : 0 < m) : m ≤ l.length ∧ ((cmE (l.take m ++ more)).2.2 ≠ 0 → (m : Int) ≤ (cmE (l.take m ++ more)).2.1) := by
  have hml : m ≤ l.length := by
    rcases cm_code l with a | a
    · exact absurd a.2 h
    · omega
  refine ⟨hml, fun q => ?_⟩
  have hA := agr_take l more m hml
  obtain ⟨l', hl'⟩ : ∃ l', l.take m ++ more = l' := ⟨_, rfl⟩
  rw [hl'] at hA q ⊢
  have en : name l' ⟨0, 0, 0⟩ = name l ⟨0, 0, 0⟩ := (name_agr hA (s := ⟨0, 0, 0⟩) h0).symm
  unfold cmE at h hm q ⊢
  rw [en] at q ⊢
  cases hs : shape (name l ⟨0, 0, 0⟩).1 with
  | none => rw [hs] at hm; dsimp only at hm; omega
  | some sh =>
    rw [hs] at h hm q
    dsimp only at h hm q ⊢
    by_cases z : (name l ⟨0, 0, 0⟩).2.wrong ≠ 0
    · rw [if_pos z] at hm; dsimp only at hm; omega
    · rw [if_neg z] at h hm q ⊢
      obtain ⟨c, hc⟩ : ∃ c : Cm × St, ((⟨(name l ⟨0, 0, 0⟩).1, [], [], ⟨0, 0, false, false⟩, leaf []⟩ : Cm), (name l ⟨0, 0, 0⟩).2) = c := ⟨_, rfl⟩
      have c2 : c.2 = (name l ⟨0, 0, 0⟩).2 := by rw [← hc]
      rw [hc] at h hm q ⊢
      have o1 := (name_on l ⟨0, 0, 0⟩).trans (c2 ▸ steps_on l sh c)
      have o2 := (name_on l' ⟨0, 0, 0⟩).trans (s := ⟨0, 0, 0⟩) (by rw [en, ← c2]; exact steps_on l' sh c)
      have t1 := told_code (z := noCm) (o1.code rfl) (o1.top (Nat.zero_le _))
      have t2 := told_code (z := noCm) (o2.code rfl) (o2.top (Nat.zero_le _))
      have a1 : (sh.foldl (stepC l) c).2.at_ = m := by
        rcases t1 with a | a
        · exact absurd a.2 h
        · omega
      have a2 : (told l' noCm (sh.foldl (stepC l') c)).2.1 = ((sh.foldl (stepC l') c).2.at_ : Int) := by
        rcases t2 with a | a
        · exact absurd a.2 q
        · exact a.1
      rw [a2]
      rcases Nat.lt_or_ge c.2.at_ m with k | k
      · rcases steps_sy hA sh c k with ⟨_, g⟩ | ⟨_, g⟩
        · omega
        · omega
      · have := (steps_on l' sh c).up
        omega
end Lx
end Go.Proofs.YtimjendkpjojoaaDoor
