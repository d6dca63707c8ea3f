/- The words of an expression, and what is read out of them, plainly. -/
import Derived.Test.YtimjendkpjojoaaDoorQ6
namespace Go.Proofs.YtimjendkpjojoaaDoor
set_option linter.unusedVariables false
set_option linter.unusedSimpArgs false

namespace Lx
def nW : List UInt8 → List Int → List Tk
  | _, [] => []
  | b, z :: r => (4, b, 0) :: (2, [], z) :: nW [44] r
def sepN (b : List UInt8) (nu : List Int) : List UInt8 := if nu = [] then b else [44]
mutual
def wordsX : Ex → List Tk
  | .mk op nm nu xs => if op = 0 then [(1, nm, 0)] else (1, opW.getD (op.toNat - 1) [], 0) :: (nW [40] nu ++ (aW (sepN [40] nu) xs ++ [(4, [41], 0)]))
def aW : List UInt8 → List Ex → List Tk
  | _, [] => []
  | b, x :: r => (4, b, 0) :: (wordsX x ++ aW [44] r)
end
mutual
def cnt : Ex → Nat
  | .mk _ _ _ xs => 1 + cnts xs
def cnts : List Ex → Nat
  | [] => 0
  | x :: r => cnt x + cnts r
end
def Ex.op : Ex → Int
  | .mk op _ _ _ => op
def Ex.nm : Ex → List UInt8
  | .mk _ nm _ _ => nm
/-- An expression whose parts have what they should have, of at most a depth. -/
def Ok : Nat → Ex → Prop
  | 0, _ => False
  | k + 1, .mk op nm nu xs => (op = 0 ∧ nu = [] ∧ xs = []) ∨ (1 ≤ op ∧ op ≤ 12 ∧ nm = [] ∧ nu.length = nuN op.toNat ∧ xs.length = arN op.toNat ∧ ∀ x ∈ xs, Ok k x)
/-- These tokens stand there. -/
def At (l : List Tk) (i : Nat) (ts : List Tk) : Prop := ∀ j (h : j < ts.length), tkAt l (i + j) = ts[j]
theorem At.app {l : List Tk} {i : Nat} {a b : List Tk} (h : At l i (a ++ b)) : At l i a ∧ At l (i + a.length) b := by
  refine ⟨fun j hj => ?_, fun j hj => ?_⟩
  · have := h j (by simp; omega)
    rw [this, List.getElem_append_left hj]
  · have := h (a.length + j) (by simp; omega)
    rw [show i + a.length + j = i + (a.length + j) by omega, this, List.getElem_append_right (by omega)]
    simp
theorem At.cons {l : List Tk} {i : Nat} {t : Tk} {r : List Tk} (h : At l i (t :: r)) : tkAt l i = t ∧ At l (i + 1) r := by
  refine ⟨h 0 (by simp), fun j hj => ?_⟩
  have := h (j + 1) (by simpa using hj)
  rw [show i + 1 + j = i + (j + 1) by omega, this]
  rfl
theorem at_self (l more : List Tk) : At (l ++ more) 0 l := fun j hj => by
  unfold tkAt
  rw [Nat.zero_add, List.getD_eq_getElem?_getD, List.getElem?_append_left hj, List.getElem?_eq_getElem hj]; rfl
theorem op_word (o : Nat) (h1 : 1 ≤ o) (h2 : o ≤ 12) : opN (opW.getD (o - 1) []) = o := by
  have : o = 1 ∨ o = 2 ∨ o = 3 ∨ o = 4 ∨ o = 5 ∨ o = 6 ∨ o = 7 ∨ o = 8 ∨ o = 9 ∨ o = 10 ∨ o = 11 ∨ o = 12 := by omega
  rcases this with rfl | rfl | rfl | rfl | rfl | rfl | rfl | rfl | rfl | rfl | rfl | rfl <;> decide
theorem ar_pos (o : Nat) (h1 : 1 ≤ o) (h2 : o ≤ 12) : 1 ≤ arN o := by
  have : o = 1 ∨ o = 2 ∨ o = 3 ∨ o = 4 ∨ o = 5 ∨ o = 6 ∨ o = 7 ∨ o = 8 ∨ o = 9 ∨ o = 10 ∨ o = 11 ∨ o = 12 := by omega
  rcases this with rfl | rfl | rfl | rfl | rfl | rfl | rfl | rfl | rfl | rfl | rfl | rfl <;> decide
theorem mark_ok {l : List Tk} {s : St} {b : List UInt8} (hw : s.wrong = 0) (h : tkAt l s.at_ = (4, b, 0)) : mark l s b = ⟨s.at_ + 1, s.parts, 0⟩ := by
  unfold mark; rw [show isMk l s.at_ b = true by unfold isMk; rw [h]; simp, take_t hw, hw]
theorem number_ok {l : List Tk} {s : St} {z : Int} (hw : s.wrong = 0) (h : tkAt l s.at_ = (2, [], z)) : number l s = (z, ⟨s.at_ + 1, s.parts, 0⟩) := by
  unfold number; rw [show isNu l s.at_ = true by unfold isNu; rw [h]; rfl, take_t hw, hw, h]
theorem nums_read (l : List Tk) : ∀ (nu : List Int) (b : List UInt8) (acc : List Int) (s : St), s.wrong = 0 → At l s.at_ (nW b nu) → numsL l nu.length b acc s = (acc ++ nu, sepN b nu, ⟨s.at_ + (nW b nu).length, s.parts, 0⟩)
  | [], b, acc, s, hw, h => by
    show (acc, b, s) = _
    rw [List.append_nil]
    show (acc, b, s) = (acc, b, (⟨s.at_ + 0, s.parts, 0⟩ : St))
    rw [← hw]; rfl
  | z :: r, b, acc, s, hw, h => by
    obtain ⟨h0, h⟩ := At.cons h
    obtain ⟨h1, h⟩ := At.cons h
    show numsL l r.length [44] (acc ++ [(number l (mark l s b)).1]) (number l (mark l s b)).2 = _
    have e1 := mark_ok hw h0
    rw [e1]
    have e2 := number_ok (s := ⟨s.at_ + 1, s.parts, 0⟩) rfl h1
    rw [e2]
    have ih := nums_read l r [44] (acc ++ [z]) ⟨s.at_ + 1 + 1, s.parts, 0⟩ rfl h
    rw [ih]
    have e3 : sepN b (z :: r) = [44] := rfl
    have e4 : sepN [44] r = [44] := by unfold sepN; split <;> rfl
    rw [e3, e4, List.append_assoc]
    show (acc ++ ([z] ++ r), [44], (⟨s.at_ + 1 + 1 + (nW [44] r).length, s.parts, 0⟩ : St)) = (acc ++ z :: r, [44], (⟨s.at_ + ((nW [44] r).length + 1 + 1), s.parts, 0⟩ : St))
    rw [show s.at_ + 1 + 1 + (nW [44] r).length = s.at_ + ((nW [44] r).length + 1 + 1) by omega]
    try rfl
/-- What part reads out of the words of an expression. -/
def Reads (k : Nat) (x : Ex) : Prop := ∀ (l : List Tk) (s : St), s.wrong = 0 → s.parts + cnt x ≤ 2000 → At l s.at_ (wordsX x) → (x.op = 0 → isMk l (s.at_ + 1) [40] = false) → part l k s = (x, ⟨s.at_ + (wordsX x).length, s.parts + cnt x, 0⟩)
theorem words_leaf {x : Ex} (h : x.op = 0) : wordsX x = [(1, x.nm, 0)] := by
  obtain ⟨op, nm, nu, xs⟩ := x
  have h : op = 0 := h
  rw [wordsX, if_pos h]; rfl
theorem args_read (l : List Tk) (k : Nat) : ∀ (xs : List Ex), (∀ x ∈ xs, Reads k x) → ∀ (b : List UInt8) (acc : List Ex) (s : St), s.wrong = 0 → s.parts + cnts xs ≤ 2000 → At l s.at_ (aW b xs) → isMk l (s.at_ + (aW b xs).length) [40] = false →
    (argsL l (part l k) xs.length b acc s).1 = acc ++ xs ∧ (argsL l (part l k) xs.length b acc s).2.2 = ⟨s.at_ + (aW b xs).length, s.parts + cnts xs, 0⟩
  | [], hR, b, acc, s, hw, hp, h, hn => by
    refine ⟨by rw [List.append_nil]; rfl, ?_⟩
    show s = (⟨s.at_ + 0, s.parts + 0, 0⟩ : St)
    rw [← hw]; rfl
  | x :: r, hR, b, acc, s, hw, hp, h, hn => by
    rw [aW] at h hn
    obtain ⟨h0, h⟩ := At.cons h
    obtain ⟨h1, h2⟩ := At.app h
    have hc : cnts (x :: r) = cnt x + cnts r := by rw [cnts]
    rw [hc] at hp
    have e1 := mark_ok hw h0
    have hnx : x.op = 0 → isMk l (s.at_ + 1 + 1) [40] = false := fun z => by
      have hl : (wordsX x).length = 1 := by rw [words_leaf z]; rfl
      cases r with
      | nil =>
        have e : s.at_ + ((4, b, 0) :: (wordsX x ++ aW [44] [])).length = s.at_ + 1 + 1 := by
          simp [aW, hl]
        rw [e] at hn; exact hn
      | cons y r' =>
        rw [aW] at h2
        obtain ⟨h3, _⟩ := At.cons h2
        rw [hl] at h3
        unfold isMk; rw [h3]; decide
    have e2 := hR x List.mem_cons_self l ⟨s.at_ + 1, s.parts, 0⟩ rfl (by show s.parts + cnt x ≤ 2000; omega) h1 hnx
    show (argsL l (part l k) (r.length + 1) b acc s).1 = _ ∧ (argsL l (part l k) (r.length + 1) b acc s).2.2 = _
    unfold argsL
    rw [e1, if_pos rfl, e2]
    have hn2 : isMk l (s.at_ + 1 + (wordsX x).length + (aW [44] r).length) [40] = false := by
      have e : s.at_ + ((4, b, 0) :: (wordsX x ++ aW [44] r)).length = s.at_ + 1 + (wordsX x).length + (aW [44] r).length := by simp; omega
      rw [e] at hn; exact hn
    have ih := args_read l k r (fun y hy => hR y (List.mem_cons_of_mem _ hy)) [44] (acc ++ [x]) ⟨s.at_ + 1 + (wordsX x).length, s.parts + cnt x, 0⟩ rfl (by show s.parts + cnt x + cnts r ≤ 2000; omega) h2 hn2
    refine ⟨by rw [ih.1, List.append_assoc]; rfl, ?_⟩
    rw [ih.2, hc, aW]
    show (⟨s.at_ + 1 + (wordsX x).length + (aW [44] r).length, s.parts + cnt x + cnts r, 0⟩ : St) = _
    rw [show s.at_ + ((4, b, 0) :: (wordsX x ++ aW [44] r)).length = s.at_ + 1 + (wordsX x).length + (aW [44] r).length by simp; omega, show s.parts + (cnt x + cnts r) = s.parts + cnt x + cnts r by omega]
theorem begun_ok {l : List Tk} {s : St} (hw : s.wrong = 0) (hp : s.parts < 2000) : begun l false s = ⟨s.at_, s.parts + 1, 0⟩ := by
  unfold begun; rw [if_neg (fun e => by rcases e.2.2 with z | z; cases z; omega), hw]
theorem name_ok {l : List Tk} {s : St} {w : List UInt8} (hw : s.wrong = 0) (h : tkAt l s.at_ = (1, w, 0)) : name l s = (w, ⟨s.at_ + 1, s.parts, 0⟩) := by
  unfold name; rw [show isNm l s.at_ = true by unfold isNm; rw [h]; rfl, take_t hw, hw, h]
theorem part_read : ∀ (k : Nat) (x : Ex), Ok k x → Reads k x
  | 0, _, h => h.elim
  | k + 1, .mk op nm nu xs, h => by
    intro l s hw hp ha hn
    have hc : cnt (.mk op nm nu xs) = 1 + cnts xs := by rw [cnt]
    rw [hc] at hp ⊢
    have eb := begun_ok (l := l) hw (by omega : s.parts < 2000)
    rcases h with ⟨rfl, rfl, rfl⟩ | ⟨h1, h2, rfl, h3, h4, h5⟩
    · have ew : wordsX (.mk 0 nm [] []) = [(1, nm, 0)] := words_leaf rfl
      rw [ew] at ha ⊢
      obtain ⟨t0, _⟩ := At.cons ha
      have en : name l (begun l false s) = (nm, ⟨s.at_ + 1, s.parts + 1, 0⟩) := by rw [eb]; exact name_ok rfl t0
      conv => lhs; unfold part
      rw [en, if_neg (fun z => by rw [hn rfl] at z; exact absurd z.2.2 (by decide))]
      rfl
    · have hz : ¬ op = 0 := by omega
      have ew : wordsX (.mk op [] nu xs) = (1, opW.getD (op.toNat - 1) [], 0) :: (nW [40] nu ++ (aW (sepN [40] nu) xs ++ [(4, [41], 0)])) := by rw [wordsX, if_neg hz]
      rw [ew] at ha ⊢
      obtain ⟨t0, ha⟩ := At.cons ha
      obtain ⟨a1, ha⟩ := At.app ha
      obtain ⟨a2, a3⟩ := At.app ha
      obtain ⟨a3, _⟩ := At.cons a3
      have en : name l (begun l false s) = (opW.getD (op.toNat - 1) [], ⟨s.at_ + 1, s.parts + 1, 0⟩) := by rw [eb]; exact name_ok rfl t0
      have eo : opN (opW.getD (op.toNat - 1) []) = op.toNat := op_word _ (by omega) (by omega)
      have xp : 1 ≤ xs.length := by rw [h4]; exact ar_pos _ (by omega) (by omega)
      have em : isMk l (s.at_ + 1) [40] = true := by
        cases nu with
        | nil =>
          cases xs with
          | nil => simp at xp
          | cons y r =>
            have e : aW (sepN [40] []) (y :: r) = (4, [40], 0) :: (wordsX y ++ aW [44] r) := by rw [aW]; rfl
            rw [e] at a2
            obtain ⟨t1, _⟩ := At.cons a2
            have t1 : tkAt l (s.at_ + 1 + 0) = (4, [40], 0) := t1
            unfold isMk; rw [Nat.add_zero] at t1; rw [t1]; rfl
        | cons z r =>
          obtain ⟨t1, _⟩ := At.cons a1
          unfold isMk; rw [t1]; rfl
      have eA : opA l op.toNat ⟨s.at_ + 1, s.parts + 1, 0⟩ = (nu, sepN [40] nu, ⟨s.at_ + 1 + (nW [40] nu).length, s.parts + 1, 0⟩) := by
        unfold opA
        rw [← h3, nums_read l nu [40] [] ⟨s.at_ + 1, s.parts + 1, 0⟩ rfl a1]
        rfl
      have hmk : isMk l (s.at_ + 1 + (nW [40] nu).length + (aW (sepN [40] nu) xs).length) [40] = false := by unfold isMk; rw [a3]; decide
      have eB := args_read l k xs (fun y hy => part_read k y (h5 y hy)) (sepN [40] nu) [] ⟨s.at_ + 1 + (nW [40] nu).length, s.parts + 1, 0⟩ rfl (by show s.parts + 1 + cnts xs ≤ 2000; omega) a2 hmk
      conv => lhs; unfold part
      rw [en, if_pos ⟨rfl, by rw [eo]; omega, em⟩]
      dsimp only
      rw [eo]
      unfold operands opB
      rw [eA]
      dsimp only
      rw [← h4, eB.1, eB.2]
      have e6 := mark_ok (l := l) (s := ⟨s.at_ + 1 + (nW [40] nu).length + (aW (sepN [40] nu) xs).length, s.parts + 1 + cnts xs, 0⟩) (b := [41]) rfl a3
      rw [e6, List.nil_append, show ((op.toNat : Nat) : Int) = op by omega]
      simp only [List.length_cons, List.length_append, List.length_nil]
      rw [show s.at_ + 1 + (nW [40] nu).length + (aW (sepN [40] nu) xs).length + 1 = s.at_ + ((nW [40] nu).length + ((aW (sepN [40] nu) xs).length + (0 + 1)) + 1) by omega, show s.parts + 1 + cnts xs = s.parts + (1 + cnts xs) by omega]
/-! The whole. -/
theorem wordsX_pos (x : Ex) : 1 ≤ (wordsX x).length := by
  obtain ⟨op, nm, nu, xs⟩ := x
  rw [wordsX]; split <;> simp
theorem tkAt_end (l : List Tk) : tkAt l l.length = (0, [], 0) := by
  unfold tkAt; rw [List.getD_eq_getElem?_getD, List.getElem?_eq_none (Nat.le_refl _)]; rfl
theorem part_whole {x : Ex} (h : Ok 40 x) (hc : cnt x ≤ 2000) (more : List Tk) (hm : x.op = 0 → isMk (wordsX x ++ more) 1 [40] = false) : part (wordsX x ++ more) 40 ⟨0, 0, 0⟩ = (x, ⟨(wordsX x).length, cnt x, 0⟩) := by
  have := part_read 40 x h (wordsX x ++ more) ⟨0, 0, 0⟩ rfl (by show 0 + cnt x ≤ 2000; omega) (at_self _ _) (fun z => by rw [Nat.zero_add]; exact hm z)
  rw [this, Nat.zero_add, Nat.zero_add]
/-- The words of an expression are that expression. -/
theorem back_all {x : Ex} (h : Ok 40 x) (hc : cnt x ≤ 2000) : exprE (wordsX x) = (x, -1, 0) := by
  have := part_whole h hc [] (fun z => by
    rw [List.append_nil, words_leaf z]; rfl)
  rw [List.append_nil] at this
  have ef : failed (wordsX x) ⟨(wordsX x).length, cnt x, 0⟩ = ⟨(wordsX x).length, cnt x, 0⟩ := by
    unfold failed; exact if_neg (fun z => absurd z.2 (Nat.lt_irrefl _))
  unfold exprE told
  rw [this]
  dsimp only
  rw [ef]
  exact if_pos rfl
/-- A word more may not stand there. -/
theorem back_more {x : Ex} (h : Ok 40 x) (hc : cnt x ≤ 2000) (t : Tk) (hm : (wordsX x).length = 1 → ¬ (t.1 = 4 ∧ t.2.1 = [40])) : (exprE (wordsX x ++ [t])).2.1 = ((wordsX x).length : Int) ∧ (exprE (wordsX x ++ [t])).2.2 = 110 := by
  have := part_whole h hc [t] (fun z => by
    have := hm (by rw [words_leaf z]; rfl)
    rw [words_leaf z]
    show decide _ = false
    exact decide_eq_false this)
  have ef : failed (wordsX x ++ [t]) ⟨(wordsX x).length, cnt x, 0⟩ = ⟨(wordsX x).length, cnt x, 110⟩ := by
    unfold failed; exact if_pos ⟨rfl, by simp⟩
  unfold exprE told
  rw [this]
  dsimp only
  rw [ef]
  exact ⟨rfl, rfl⟩
/-- Of the code 111 there stands a name. -/
structure Of (l : List Tk) (s t : St) : Prop where
  nm : s.wrong = 0 → t.wrong = 111 → isNm l t.at_ = true
theorem Of.trans {l : List Tk} {s t u : St} (h : Of l s t) (k : Of l t u) (o : On l t u) : Of l s u := ⟨fun a b => by
  by_cases z : t.wrong = 0
  · exact k.nm z b
  · have := o.stay z
    rw [this.1]; exact h.nm a (this.2.symm.trans b)⟩
theorem take_of (l : List Tk) (s : St) (b : Bool) : Of l s (take l s b).2 := ⟨fun a c => by
  unfold take at c
  rw [if_pos a] at c
  split at c
  · rw [show (⟨s.at_ + 1, s.parts, s.wrong⟩ : St).wrong = s.wrong from rfl, a] at c; exact absurd c (by decide)
  · exact absurd (show (110 : Int) = 111 from c) (by decide)⟩
theorem begun_of (l : List Tk) (z : Bool) (s : St) : Of l s (begun l z s) := ⟨fun a c => by
  unfold begun at c ⊢
  dsimp only at c ⊢
  split at c
  · rename_i h; exact h.2.1
  · rw [a] at c; exact absurd c (by decide)⟩
theorem Of.refl (l : List Tk) (s : St) : Of l s s := ⟨fun a b => by rw [a] at b; exact absurd b (by decide)⟩
theorem numsL_of (l : List Tk) : ∀ (n : Nat) (b : List UInt8) (acc : List Int) (s : St), Of l s (numsL l n b acc s).2.2
  | 0, b, acc, s => Of.refl l s
  | n + 1, b, acc, s => ((take_of l s _).trans (take_of l _ _) (number_on l _)).trans (numsL_of l n _ _ _) (numsL_on l n _ _ _)
theorem argsL_of (l : List Tk) (P : St → Ex × St) (hO : ∀ s, s.wrong = 0 → On l s (P s).2) (hP : ∀ s, s.wrong = 0 → Of l s (P s).2) : ∀ (n : Nat) (b : List UInt8) (acc : List Ex) (s : St), Of l s (argsL l P n b acc s).2.2
  | 0, b, acc, s => Of.refl l s
  | n + 1, b, acc, s => by
    unfold argsL
    split
    · rename_i z; exact (Of.trans (take_of l s _) (hP _ z) (hO _ z)).trans (argsL_of l P hO hP n _ _ _) (argsL_on l P hO n _ _ _)
    · exact Of.trans (take_of l s _) (argsL_of l P hO hP n _ _ _) (argsL_on l P hO n _ _ _)
theorem part_of (l : List Tk) : ∀ (k : Nat) (s : St), Of l s (part l k s).2
  | 0, s => (begun_of l true s).trans (take_of l _ _) (name_on l _)
  | k + 1, s => by
    have h1 : Of l s (name l (begun l false s)).2 := (begun_of l false s).trans (take_of l _ _) (name_on l _)
    unfold part
    split
    · have o1 := operands_on l (part l k) (fun s _ => part_on l k s) (opN (name l (begun l false s)).1) (name l (begun l false s)).2
      refine h1.trans ?_ o1
      unfold operands
      exact (Of.trans (numsL_of l _ _ _ _) (argsL_of l _ (fun s _ => part_on l k s) (fun s _ => part_of l k s) _ _ _ _) (argsL_on l _ (fun s _ => part_on l k s) _ _ _ _)).trans (take_of l _ _) (mark_on l _ _)
    · exact h1
/-- What is read whole out of a shorter list is read out of the longer one. -/
theorem part_cut {l l' : List Tk} {m k : Nat} (h : Agr l l' m) {s : St} (hs : s.at_ < m) (he : (part l' (k + 1) s).2.wrong = 0) (h2 : s.at_ + 2 ≤ (part l' (k + 1) s).2.at_) (h3 : (part l' (k + 1) s).2.at_ ≤ m) : part l (k + 1) s = part l' (k + 1) s := by
  have en : name l (begun l false s) = name l' (begun l' false s) := by rw [begun_agr h hs, name_agr h (by exact hs)]
  have a1 : (name l' (begun l' false s)).2.at_ ≤ s.at_ + 1 := by
    unfold name take
    split
    · split
      · exact Nat.le_refl _
      · exact Nat.le_succ _
    · exact Nat.le_succ _
  conv => lhs; unfold part
  conv => rhs; unfold part
  unfold part at he h2 h3
  obtain ⟨nx, hnx⟩ : ∃ z, name l' (begun l' false s) = z := ⟨_, rfl⟩
  rw [en]
  rw [hnx] at he h2 h3 a1 ⊢
  by_cases c : nx.2.wrong = 0 ∧ opN nx.1 ≠ 0 ∧ isMk l' nx.2.at_ [40] = true
  · rw [if_pos c] at he h2 h3
    have hx : nx.2.at_ < m := by omega
    rw [if_pos c, if_pos (by rw [isMk_agr h hx]; exact c)]
    have hsy := operands_sy h (part l k) (part l' k) (fun s _ => part_on l k s) (fun s _ => part_on l' k s) (fun s q => part_sy h k s q) (opN nx.1) nx.2 hx
    unfold operands at he h2 h3 ⊢
    -- the state ahead of the last mark
    have m1 : (opB l' (part l' k) (opN nx.1) nx.2).2.2.at_ < m := by
      by_cases w : (opB l' (part l' k) (opN nx.1) nx.2).2.2.wrong = 0
      · dsimp only at he h3
        unfold mark take at he h3
        rw [if_pos w] at he h3
        split at he
        · rename_i b; rw [if_pos b] at h3; exact h3
        · exact absurd (show (110 : Int) = 0 from he) (by decide)
      · exact absurd (((mark_on l' (opB l' (part l' k) (opN nx.1) nx.2).2.2 [41]).stay w).2.symm.trans he) w
    have e1 := numsL_sy h (nuN (opN nx.1)) [40] [] nx.2 hx
    have e2 : Sy m (pair (opB l (part l k) (opN nx.1) nx.2)) (pair (opB l' (part l' k) (opN nx.1) nx.2)) := by
      unfold opB opA
      exact e1.bind (fun x => pair (argsL l (part l k) (arN (opN nx.1)) x.1.2 [] x.2)) (fun x => pair (argsL l' (part l' k) (arN (opN nx.1)) x.1.2 [] x.2)) (argsL_on l _ (fun s _ => part_on l k s) _ _ _ _) (argsL_on l' _ (fun s _ => part_on l' k s) _ _ _ _) (fun _ q => argsL_sy h _ _ (fun s _ => part_on l k s) (fun s _ => part_on l' k s) (fun s q => part_sy h k s q) _ _ _ _ q)
    rcases e2 with ⟨e, q⟩ | ⟨_, q⟩
    · have i1 := congrArg (fun z => z.1.1) e
      have i3 := congrArg (fun z => z.2) e
      dsimp only [pair] at i1 i3
      have e0 : opA l (opN nx.1) nx.2 = opA l' (opN nx.1) nx.2 := by
        rcases e1 with ⟨e, _⟩ | ⟨_, q1⟩
        · have j1 := congrArg (fun z => z.1.1) e
          have j2 := congrArg (fun z => z.1.2) e
          have j3 := congrArg (fun z => z.2) e
          dsimp only [pair] at j1 j2 j3
          unfold opA
          exact Prod.ext j1 (Prod.ext j2 j3)
        · exfalso
          have up := (argsL_on l' (part l' k) (fun s _ => part_on l' k s) (arN (opN nx.1)) (opA l' (opN nx.1) nx.2).2.1 [] (opA l' (opN nx.1) nx.2).2.2).up
          have q1 : m ≤ (opA l' (opN nx.1) nx.2).2.2.at_ := q1
          have m1 : (argsL l' (part l' k) (arN (opN nx.1)) (opA l' (opN nx.1) nx.2).2.1 [] (opA l' (opN nx.1) nx.2).2.2).2.2.at_ < m := m1
          omega
      rw [e0, i1, i3, mark_agr h m1]
    · exact absurd m1 (by have q : m ≤ (opB l' (part l' k) (opN nx.1) nx.2).2.2.at_ := q; omega)
  · rw [if_neg c] at h2
    dsimp only at h2
    omega
/-- Cut off anywhere they are none, but for a name. -/
theorem back_cut {x : Ex} (h : Ok 40 x) (hc : cnt x ≤ 2000) (m : Nat) (hm : m < (wordsX x).length) (h1 : m ≠ 1) : (exprE ((wordsX x).take m)).2.1 = (m : Int) ∧ (exprE ((wordsX x).take m)).2.2 = 110 := by
  obtain ⟨l, hl⟩ : ∃ l, wordsX x = l := ⟨_, rfl⟩
  have hw : part l 40 ⟨0, 0, 0⟩ = (x, ⟨l.length, cnt x, 0⟩) := by
    have := part_whole h hc [] (fun z => by rw [List.append_nil, words_leaf z]; rfl)
    rw [List.append_nil, hl] at this; exact this
  rw [hl] at hm ⊢
  have hA : Agr l (l.take m) m := by
    have := agr_take l [] m (by omega)
    rwa [List.append_nil] at this
  have hlen : (l.take m).length = m := by rw [List.length_take]; omega
  have on' := part_on (l.take m) 40 ⟨0, 0, 0⟩
  have top := on'.top (Nat.zero_le _)
  rw [hlen] at top
  have lo : m ≤ (part (l.take m) 40 ⟨0, 0, 0⟩).2.at_ := by
    rcases Nat.eq_zero_or_pos m with z | z
    · omega
    · rcases part_sy hA 40 ⟨0, 0, 0⟩ z with ⟨_, q⟩ | ⟨_, q⟩
      · rw [hw] at q; exact absurd q (by show ¬ l.length < m; omega)
      · exact q
  have ea : (part (l.take m) 40 ⟨0, 0, 0⟩).2.at_ = m := by omega
  have nw : (part (l.take m) 40 ⟨0, 0, 0⟩).2.wrong ≠ 0 := by
    intro z
    rcases Nat.eq_zero_or_pos m with e | e
    · subst e
      rw [List.take_zero] at z
      exact absurd z (by decide)
    · have := part_cut (k := 39) hA (s := ⟨0, 0, 0⟩) e z (by rw [ea]; show 0 + 2 ≤ m; omega) (by omega)
      have e2 := congrArg (fun y : Ex × St => y.2.at_) this
      have e2 : (part (l.take m) 40 ⟨0, 0, 0⟩).2.at_ = (part l 40 ⟨0, 0, 0⟩).2.at_ := by first | exact e2 | exact e2.symm
      rw [ea] at e2
      have e3 : (part l 40 ⟨0, 0, 0⟩).2.at_ = l.length := by rw [hw]
      omega
  have hn : isNm (l.take m) m = false := by
    have := tkAt_end (l.take m)
    rw [hlen] at this
    unfold isNm; rw [this]; rfl
  have code : (part (l.take m) 40 ⟨0, 0, 0⟩).2.wrong = 110 := by
    rcases on'.code rfl with z | z | z
    · exact absurd z nw
    · exact z
    · have := (part_of (l.take m) 40 ⟨0, 0, 0⟩).nm rfl z
      rw [ea, hn] at this; cases this
  unfold exprE told
  have ef : failed (l.take m) (part (l.take m) 40 ⟨0, 0, 0⟩).2 = (part (l.take m) 40 ⟨0, 0, 0⟩).2 := by
    unfold failed; rw [if_neg (fun q => nw q.1)]
  rw [ef, if_neg nw]
  dsimp only
  rw [ea, code]
  exact ⟨rfl, rfl⟩
theorem back_one {x : Ex} (h : Ok 40 x) (hm : 1 < (wordsX x).length) : ∃ w, (wordsX x)[0]? = some (1, w, 0) ∧ exprE ((wordsX x).take 1) = (leaf w, -1, 0) := by
  obtain ⟨op, nm, nu, xs⟩ := x
  have hz : ¬ op = 0 := fun z => by rw [words_leaf (x := .mk op nm nu xs) z] at hm; simp at hm
  rw [wordsX, if_neg hz]
  refine ⟨_, rfl, ?_⟩
  show exprE [(1, opW.getD (op.toNat - 1) [], 0)] = _
  obtain ⟨w, hw⟩ : ∃ w, opW.getD (op.toNat - 1) [] = w := ⟨_, rfl⟩
  rw [hw]
  have eb := begun_ok (l := [(1, w, 0)]) (s := ⟨0, 0, 0⟩) rfl (by decide)
  have en : name [(1, w, 0)] (begun [(1, w, 0)] false ⟨0, 0, 0⟩) = (w, ⟨1, 1, 0⟩) := by rw [eb]; exact name_ok rfl rfl
  have ep : part [(1, w, 0)] 40 ⟨0, 0, 0⟩ = (leaf w, ⟨1, 1, 0⟩) := by
    unfold part
    have em : isMk [(1, w, 0)] 1 [40] = false := by simp [isMk, tkAt]
    rw [en, if_neg (fun z => by rw [em] at z; exact absurd z.2.2 (by decide))]
  unfold exprE told failed
  rw [ep]
  rfl
end Lx
end Go.Proofs.YtimjendkpjojoaaDoor
