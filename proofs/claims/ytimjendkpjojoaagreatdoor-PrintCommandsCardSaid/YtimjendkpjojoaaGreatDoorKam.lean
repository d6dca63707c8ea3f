/- Q10, Q11 in one. -/
import Derived.Test.YtimjendkpjojoaaGreatDoorKj
import Derived.Test.YtimjendkpjojoaaGreatDoorKm
namespace Go.Proofs.YtimjendkpjojoaaGreatDoor
set_option linter.unusedVariables false
set_option linter.unusedSimpArgs false
open Go.ChangeShapes Go.WideShapes Go.ChangeAt Go.RowKit

namespace Lx
/-! How many words were taken. -/
theorem take_ok {l : List Tk} {s : St} {b : Bool} (h : (take l s b).2.wrong = 0) : s.wrong = 0 ∧ b = true ∧ (take l s b).2.at_ = s.at_ + 1 := by
  unfold take at h ⊢
  by_cases z : s.wrong = 0
  · rw [if_pos z] at h ⊢
    cases b
    · exact absurd (show (110 : Int) = 0 from h) (by decide)
    · exact ⟨z, rfl, rfl⟩
  · rw [if_neg z] at h; exact absurd h z
theorem numsL_len (l : List Tk) : ∀ (n : Nat) (b : List UInt8) (acc : List Int) (s : St), (numsL l n b acc s).2.2.wrong = 0 → s.wrong = 0 ∧ (numsL l n b acc s).2.2.at_ = s.at_ + 2 * n ∧ ∃ r : List Int, (numsL l n b acc s).1 = acc ++ r ∧ r.length = n
  | 0, b, acc, s, h => ⟨h, rfl, [], (List.append_nil _).symm, rfl⟩
  | n + 1, b, acc, s, h => by
    obtain ⟨h1, h2, r, h3, h4⟩ := numsL_len l n [44] (acc ++ [(number l (mark l s b)).1]) (number l (mark l s b)).2 h
    obtain ⟨k1, _, k2⟩ := take_ok h1
    obtain ⟨m1, _, m2⟩ := take_ok k1
    refine ⟨m1, ?_, (number l (mark l s b)).1 :: r, ?_, by rw [List.length_cons, h4]⟩
    · show (numsL l n [44] (acc ++ [(number l (mark l s b)).1]) (number l (mark l s b)).2).2.2.at_ = _
      rw [h2, show (number l (mark l s b)).2.at_ = _ from k2, show (mark l s b).at_ = _ from m2]; omega
    · show (numsL l n [44] (acc ++ [(number l (mark l s b)).1]) (number l (mark l s b)).2).1 = _
      rw [h3, List.append_assoc]; rfl
theorem argsL_len (l : List Tk) (P : St → Ex × St) (hP : ∀ s, s.wrong = 0 → (P s).2.wrong = 0 → (P s).2.at_ = s.at_ + (wordsX (P s).1).length) : ∀ (n : Nat) (b : List UInt8) (acc : List Ex) (s : St), (argsL l P n b acc s).2.2.wrong = 0 → s.wrong = 0 ∧ ∃ r : List Ex, (argsL l P n b acc s).1 = acc ++ r ∧ (argsL l P n b acc s).2.2.at_ = s.at_ + (aW b r).length
  | 0, b, acc, s, h => ⟨h, [], (List.append_nil _).symm, by rw [aW]; rfl⟩
  | n + 1, b, acc, s, h => by
    unfold argsL at h ⊢
    by_cases z : (mark l s b).wrong = 0
    · rw [if_pos z] at h ⊢
      obtain ⟨h1, r, h3, h4⟩ := argsL_len l P hP n [44] _ _ h
      obtain ⟨m1, _, m2⟩ := take_ok z
      refine ⟨m1, (P (mark l s b)).1 :: r, by rw [h3, List.append_assoc]; rfl, ?_⟩
      rw [h4, hP _ z h1, show (mark l s b).at_ = _ from m2, aW, List.length_cons, List.length_append]; omega
    · rw [if_neg z] at h
      exact absurd (argsL_len l P hP n [44] _ _ h).1 z
theorem nW_len2 : ∀ (nu : List Int) (b : List UInt8), (nW b nu).length = 2 * nu.length
  | [], b => rfl
  | z :: r, b => by simp only [nW, List.length_cons, nW_len2 r]; omega
theorem aW_len2 : ∀ (xs : List Ex) (b c : List UInt8), (aW b xs).length = (aW c xs).length
  | [], b, c => by rw [aW, aW]
  | x :: r, b, c => by rw [aW, aW]; rfl
theorem begun_ok2 {l : List Tk} {s : St} (h : (begun l false s).wrong = 0) : s.wrong = 0 := by
  unfold begun at h
  dsimp only at h
  split at h
  · rename_i q; exact q.1
  · exact h
theorem part_len (l : List Tk) : ∀ (k : Nat) (s : St), s.wrong = 0 → (part l k s).2.wrong = 0 → (part l k s).2.at_ = s.at_ + (wordsX (part l k s).1).length
  | 0, s, _, h => by
    have h : (name l (begun l true s)).2.wrong = 0 := h
    obtain ⟨_, _, k2⟩ := take_ok h
    show (name l (begun l true s)).2.at_ = _
    rw [show (name l (begun l true s)).2.at_ = _ from k2]
    have e : wordsX (part l 0 s).1 = [(1, (name l (begun l true s)).1, 0)] := words_leaf rfl
    rw [e]; rfl
  | k + 1, s, hs, h => by
    unfold part at h ⊢
    split at h
    · rename_i c
      rw [if_pos c]
      obtain ⟨_, _, k2⟩ := take_ok c.1
      have k2 : (name l (begun l false s)).2.at_ = s.at_ + 1 := k2
      unfold operands at h ⊢
      dsimp only at h ⊢
      obtain ⟨m1, _, m2⟩ := take_ok h
      have m2 : (mark l (opB l (part l k) (opN (name l (begun l false s)).1) (name l (begun l false s)).2).2.2 [41]).at_ = (opB l (part l k) (opN (name l (begun l false s)).1) (name l (begun l false s)).2).2.2.at_ + 1 := m2
      obtain ⟨a1, r, a2, a3⟩ := argsL_len l (part l k) (fun s q1 q2 => part_len l k s q1 q2) _ _ _ _ m1
      obtain ⟨b1, b2, r', b3, b4⟩ := numsL_len l _ _ _ _ a1
      have a3 : (opB l (part l k) (opN (name l (begun l false s)).1) (name l (begun l false s)).2).2.2.at_ = _ := a3
      have a2 : (opB l (part l k) (opN (name l (begun l false s)).1) (name l (begun l false s)).2).1 = [] ++ r := a2
      have b3 : (opA l (opN (name l (begun l false s)).1) (name l (begun l false s)).2).1 = [] ++ r' := b3
      have b2 : (opA l (opN (name l (begun l false s)).1) (name l (begun l false s)).2).2.2.at_ = _ := b2
      rw [m2, a3, b2, k2, a2, b3, List.nil_append, List.nil_append]
      have ho : ¬ ((opN (name l (begun l false s)).1 : Nat) : Int) = 0 := by have := c.2.1; omega
      rw [wordsX, if_neg ho]
      simp only [List.length_cons, List.length_append, List.length_nil, nW_len2]
      rw [b4, aW_len2 r _ (sepN [40] r')]; omega
    · rename_i c
      rw [if_neg c]
      obtain ⟨_, _, k2⟩ := take_ok (show (take l (begun l false s) _).2.wrong = 0 from h)
      show (name l (begun l false s)).2.at_ = _
      rw [show (name l (begun l false s)).2.at_ = _ from k2]
      have e : wordsX (leaf (name l (begun l false s)).1) = [(1, (name l (begun l false s)).1, 0)] := words_leaf rfl
      rw [e]; rfl
theorem endE_len {l : List Tk} {s : St} (h : (endE l s).2.wrong = 0) : s.wrong = 0 ∧ (endE l s).2.at_ = s.at_ + (if (endE l s).1.2 = true then 1 else 0) := by
  unfold endE at h ⊢
  split at h
  · rename_i c; rw [if_pos c]; exact ⟨h, rfl⟩
  · rename_i c
    rw [if_neg c]
    obtain ⟨k1, _, k2⟩ := take_ok (show (take l s _).2.wrong = 0 from h)
    exact ⟨k1, k2⟩
theorem span_len {l : List Tk} {s : St} (h : (span l s).2.wrong = 0) : s.wrong = 0 ∧ (span l s).2.at_ = s.at_ + (rgW (span l s).1).length := by
  unfold span at h ⊢
  dsimp only at h ⊢
  obtain ⟨m1, _, m2⟩ := take_ok (show (take l (rgB l s).2 _).2.wrong = 0 from h)
  obtain ⟨b1, b2⟩ := endE_len (show (endE l (mark l (rgA l s).2 [58])).2.wrong = 0 from m1)
  obtain ⟨c1, _, c2⟩ := take_ok (show (take l (rgA l s).2 _).2.wrong = 0 from b1)
  obtain ⟨d1, d2⟩ := endE_len (show (endE l (mark l s [91])).2.wrong = 0 from c1)
  obtain ⟨f1, _, f2⟩ := take_ok (show (take l s _).2.wrong = 0 from d1)
  refine ⟨f1, ?_⟩
  have m2 : (mark l (rgB l s).2 [93]).at_ = (rgB l s).2.at_ + 1 := m2
  have b2 : (rgB l s).2.at_ = (mark l (rgA l s).2 [58]).at_ + (if (rgB l s).1.2 = true then 1 else 0) := b2
  have c2 : (mark l (rgA l s).2 [58]).at_ = (rgA l s).2.at_ + 1 := c2
  have d2 : (rgA l s).2.at_ = (mark l s [91]).at_ + (if (rgA l s).1.2 = true then 1 else 0) := d2
  have f2 : (mark l s [91]).at_ = s.at_ + 1 := f2
  rw [m2, b2, c2, d2, f2]
  unfold rgW
  dsimp only
  cases (rgA l s).1.2 <;> cases (rgB l s).1.2 <;> simp
/-- Ranges and expressions come last. -/
def Last : List UInt8 → Prop
  | [] => True
  | x :: r => (x = 110 ∨ x = 105 ∨ x = 61 ∨ ((x = 101 ∨ x = 114) ∧ r = [])) ∧ Last r
theorem shape_last {sh : List UInt8} (h : sh ∈ shapesL) : Last sh := by
  unfold shapesL at h
  simp only [List.mem_cons, List.not_mem_nil, or_false] at h
  rcases h with rfl | rfl | rfl | rfl | rfl | rfl | rfl | rfl | rfl <;> simp [Last]
theorem step_len {l : List Tk} {c : Cm × St} {x : UInt8} (hx : x = 110 ∨ x = 105 ∨ x = 101 ∨ x = 61 ∨ x = 114) (h : (stepC l c x).2.wrong = 0) : c.2.wrong = 0 ∧ ∀ a b, (stepC l c x).2.at_ = c.2.at_ + (letW (stepC l c x).1 x a b).length := by
  rcases hx with rfl | rfl | rfl | rfl | rfl
  · obtain ⟨k1, _, k2⟩ := take_ok (show (take l c.2 _).2.wrong = 0 from h)
    exact ⟨k1, fun a b => k2⟩
  · obtain ⟨k1, _, k2⟩ := take_ok (show (take l c.2 _).2.wrong = 0 from h)
    exact ⟨k1, fun a b => k2⟩
  · have h : (part l 40 c.2).2.wrong = 0 := h
    have hz : c.2.wrong = 0 := by
      by_cases z : c.2.wrong = 0
      · exact z
      · exact absurd (((part_on l 40 c.2).stay z).2.symm.trans h) z
    exact ⟨hz, fun a b => part_len l 40 c.2 hz h⟩
  · obtain ⟨k1, _, k2⟩ := take_ok (show (take l c.2 _).2.wrong = 0 from h)
    exact ⟨k1, fun a b => k2⟩
  · obtain ⟨k1, k2⟩ := span_len (show (span l c.2).2.wrong = 0 from h)
    exact ⟨k1, fun a b => k2⟩
theorem steps_len {l : List Tk} : ∀ (sh : List UInt8) (c : Cm × St), Last sh → (sh.foldl (stepC l) c).2.wrong = 0 → c.2.wrong = 0 ∧ ∀ a b, (sh.foldl (stepC l) c).2.at_ = c.2.at_ + (shW (sh.foldl (stepC l) c).1 sh a b).length
  | [], c, _, h => ⟨h, fun a b => by rw [shW]; rfl⟩
  | x :: r, c, hl, h => by
    have h : (r.foldl (stepC l) (stepC l c x)).2.wrong = 0 := h
    obtain ⟨h1, h2⟩ := steps_len r (stepC l c x) hl.2 h
    obtain ⟨k1, k2⟩ := step_len (by rcases hl.1 with e | e | e | ⟨e | e, _⟩ <;> simp [e]) h1
    refine ⟨k1, fun a b => ?_⟩
    show (r.foldl (stepC l) (stepC l c x)).2.at_ = _ + (shW (r.foldl (stepC l) (stepC l c x)).1 (x :: r) a b).length
    have e : (letW (r.foldl (stepC l) (stepC l c x)).1 x a b).length = (letW (stepC l c x).1 x a b).length := by
      rcases hl.1 with rfl | rfl | rfl | ⟨_, rfl⟩
      · rfl
      · rfl
      · rfl
      · rfl
    rw [h2 (a + upN x) (b + upI x), k2 a b, shW, List.length_append, e]; omega
theorem step_word (l : List Tk) (c : Cm × St) (x : UInt8) : (stepC l c x).1.word = c.1.word := by
  unfold stepC; split
  · rfl
  · split
    · rfl
    · split
      · rfl
      · split <;> rfl
theorem steps_word (l : List Tk) : ∀ (sh : List UInt8) (c : Cm × St), (sh.foldl (stepC l) c).1.word = c.1.word
  | [], c => rfl
  | x :: r, c => (steps_word l r _).trans (step_word l c x)
/-- What was read whole says its first word, and how many there were. -/
theorem cm_whole {l : List Tk} (h : (cmE l).2.2 = 0) : (tkAt l 0).1 = 1 ∧ (cmE l).1.word = (tkAt l 0).2.1 ∧ ∃ sh, shape (cmE l).1.word = some sh ∧ l.length = (toldC (cmE l).1 sh).length := by
  unfold cmE at h ⊢
  split at h
  · exact absurd (show (110 : Int) = 0 from h) (by decide)
  · rename_i sh hsh
    split at h
    · exact absurd (show (110 : Int) = 0 from h) (by decide)
    · rename_i hw
      have hw : (name l ⟨0, 0, 0⟩).2.wrong = 0 := by
        by_cases z : (name l ⟨0, 0, 0⟩).2.wrong = 0
        · exact z
        · exact absurd z hw
      obtain ⟨_, n1, n2⟩ := take_ok (show (take l ⟨0, 0, 0⟩ _).2.wrong = 0 from hw)
      have n1 : (tkAt l 0).1 = 1 := of_decide_eq_true n1
      have n2 : (name l ⟨0, 0, 0⟩).2.at_ = 1 := n2
      have n3 : (name l ⟨0, 0, 0⟩).1 = (tkAt l 0).2.1 := by
        unfold name take; rw [if_pos rfl, show isNm l (⟨0, 0, 0⟩ : St).at_ = true from decide_eq_true n1, if_pos rfl]
      obtain ⟨F, hF⟩ : ∃ F, sh.foldl (stepC l) (⟨(name l ⟨0, 0, 0⟩).1, [], [], ⟨0, 0, false, false⟩, leaf []⟩, (name l ⟨0, 0, 0⟩).2) = F := ⟨_, rfl⟩
      have ho := steps_on l sh (⟨(name l ⟨0, 0, 0⟩).1, [], [], ⟨0, 0, false, false⟩, leaf []⟩, (name l ⟨0, 0, 0⟩).2)
      have hwd := steps_word l sh (⟨(name l ⟨0, 0, 0⟩).1, [], [], ⟨0, 0, false, false⟩, leaf []⟩, (name l ⟨0, 0, 0⟩).2)
      have hln := steps_len (l := l) sh (⟨(name l ⟨0, 0, 0⟩).1, [], [], ⟨0, 0, false, false⟩, leaf []⟩, (name l ⟨0, 0, 0⟩).2) (shape_last (shape_in hsh))
      rw [hF] at h ho hwd hln
      rw [if_neg (fun z => z hw), hF]
      unfold told at h ⊢
      split at h
      · rename_i q
        rw [if_pos q]
        dsimp only
        have q2 : F.2.wrong = 0 ∧ ¬ F.2.at_ < l.length := by
          unfold failed at q
          split at q
          · exact absurd (show (110 : Int) = 0 from q) (by decide)
          · rename_i c; exact ⟨q, fun z => c ⟨q, z⟩⟩
        have top := ho.top (by show (name l ⟨0, 0, 0⟩).2.at_ ≤ _; rw [n2]; have := tkAt_lt (l := l) (i := 0) (by rw [n1]; decide); omega)
        have a1 := (hln q2.1).2 0 0
        have a1 : F.2.at_ = (name l ⟨0, 0, 0⟩).2.at_ + (shW F.1 sh 0 0).length := a1
        have hwd : F.1.word = (name l ⟨0, 0, 0⟩).1 := hwd
        refine ⟨n1, hwd.trans n3, sh, by rw [hwd]; exact hsh, ?_⟩
        unfold toldC
        rw [List.length_cons]
        have := q2.2
        have top : F.2.at_ ≤ l.length := top
        omega
      · rename_i q; exact absurd h q
end Lx

namespace Lx
theorem isNu_ok {l : List Tk} {i : Nat} {z : Int} (h : tkAt l i = (2, [], z)) : isNu l i = true := by unfold isNu; rw [h]; rfl
theorem isNu_mk {l : List Tk} {i : Nat} {b : List UInt8} (h : tkAt l i = (4, b, 0)) : isNu l i = false := by unfold isNu; rw [h]; rfl
theorem span_read {l : List Tk} {s : St} {r : Rg} (hw : s.wrong = 0) (h : At l s.at_ (rgW r)) (h1 : r.hl = false → r.low = 0) (h2 : r.hh = false → r.high = 0) : span l s = (r, ⟨s.at_ + (rgW r).length, s.parts, 0⟩) := by
  obtain ⟨lo, hi, gl, gh⟩ := r
  dsimp only at h1 h2
  unfold rgW at h ⊢
  dsimp only at h ⊢
  cases gl
  · obtain rfl := h1 rfl
    rw [if_neg (by decide), List.nil_append] at h ⊢
    obtain ⟨t0, h⟩ := At.cons h
    obtain ⟨t1, h⟩ := At.cons h
    have e1 := mark_ok hw t0
    have e2 : rgA l s = ((0, false), ⟨s.at_ + 1, s.parts, 0⟩) := by unfold rgA endE; rw [e1]; exact if_pos (.inr (isNu_mk t1))
    have e3 : mark l (rgA l s).2 [58] = ⟨s.at_ + 1 + 1, s.parts, 0⟩ := by rw [e2]; exact mark_ok rfl t1
    cases gh
    · obtain rfl := h2 rfl
      rw [if_neg (by decide), List.nil_append] at h ⊢
      obtain ⟨t2, _⟩ := At.cons h
      have e4 : rgB l s = ((0, false), ⟨s.at_ + 1 + 1, s.parts, 0⟩) := by unfold rgB endE; rw [e3]; exact if_pos (.inr (isNu_mk t2))
      have e5 : mark l (rgB l s).2 [93] = ⟨s.at_ + 1 + 1 + 1, s.parts, 0⟩ := by rw [e4]; exact mark_ok rfl t2
      unfold span; rw [e5, e4, e2]; rfl
    · rw [if_pos rfl] at h ⊢
      obtain ⟨t2, h⟩ := At.cons h
      obtain ⟨t3, _⟩ := At.cons h
      have e4 : rgB l s = ((hi, true), ⟨s.at_ + 1 + 1 + 1, s.parts, 0⟩) := by
        unfold rgB endE; rw [e3, if_neg (by rw [isNu_ok t2]; simp), number_ok rfl t2]
      have e5 : mark l (rgB l s).2 [93] = ⟨s.at_ + 1 + 1 + 1 + 1, s.parts, 0⟩ := by rw [e4]; exact mark_ok rfl t3
      unfold span; rw [e5, e4, e2]; rfl
  · rw [if_pos rfl] at h ⊢
    obtain ⟨t0, h⟩ := At.cons h
    obtain ⟨t1, h⟩ := At.cons h
    obtain ⟨t2, h⟩ := At.cons h
    have e1 := mark_ok hw t0
    have e2 : rgA l s = ((lo, true), ⟨s.at_ + 1 + 1, s.parts, 0⟩) := by
      unfold rgA endE; rw [e1, if_neg (by rw [isNu_ok t1]; simp), number_ok rfl t1]
    have e3 : mark l (rgA l s).2 [58] = ⟨s.at_ + 1 + 1 + 1, s.parts, 0⟩ := by rw [e2]; exact mark_ok rfl t2
    cases gh
    · obtain rfl := h2 rfl
      rw [if_neg (by decide), List.nil_append] at h ⊢
      obtain ⟨t3, _⟩ := At.cons h
      have e4 : rgB l s = ((0, false), ⟨s.at_ + 1 + 1 + 1, s.parts, 0⟩) := by unfold rgB endE; rw [e3]; exact if_pos (.inr (isNu_mk t3))
      have e5 : mark l (rgB l s).2 [93] = ⟨s.at_ + 1 + 1 + 1 + 1, s.parts, 0⟩ := by rw [e4]; exact mark_ok rfl t3
      unfold span; rw [e5, e4, e2]; rfl
    · rw [if_pos rfl] at h ⊢
      obtain ⟨t3, h⟩ := At.cons h
      obtain ⟨t4, _⟩ := At.cons h
      have e4 : rgB l s = ((hi, true), ⟨s.at_ + 1 + 1 + 1 + 1, s.parts, 0⟩) := by
        unfold rgB endE; rw [e3, if_neg (by rw [isNu_ok t3]; simp), number_ok rfl t3]
      have e5 : mark l (rgB l s).2 [93] = ⟨s.at_ + 1 + 1 + 1 + 1 + 1, s.parts, 0⟩ := by rw [e4]; exact mark_ok rfl t4
      unfold span; rw [e5, e4, e2]; rfl
/-- What the rest of a shape reads. -/
theorem steps_read (l : List Tk) (c : Cm) (h1 : c.rg.hl = false → c.rg.low = 0) (h2 : c.rg.hh = false → c.rg.high = 0) : ∀ (sh : List UInt8) (a b : Nat) (c0 : Cm) (s : St), Last sh → s.wrong = 0 → At l s.at_ (shW c sh a b) → a + cN sh = c.names.length → b + cI sh = c.nums.length → (101 ∈ sh → Ok 40 c.ex ∧ s.parts + cnt c.ex ≤ 2000 ∧ l.length = s.at_ + (shW c sh a b).length) →
    ∃ p, sh.foldl (stepC l) (c0, s) = (⟨c0.word, c0.names ++ c.names.drop a, c0.nums ++ c.nums.drop b, if 114 ∈ sh then c.rg else c0.rg, if 101 ∈ sh then c.ex else c0.ex⟩, ⟨s.at_ + (shW c sh a b).length, p, 0⟩)
  | [], a, b, c0, s, _, hw, _, ha, hb, _ => by
    refine ⟨s.parts, ?_⟩
    have ha : a = c.names.length := ha
    have hb : b = c.nums.length := hb
    rw [List.drop_of_length_le (by omega), List.drop_of_length_le (by omega), List.append_nil, List.append_nil, if_neg (by simp), if_neg (by simp), shW]
    show (c0, s) = (c0, (⟨s.at_ + 0, s.parts, 0⟩ : St))
    rw [← hw]; rfl
  | x :: r, a, b, c0, s, hl, hw, hA, ha, hb, hx => by
    rw [shW] at hA hx ⊢
    obtain ⟨hA1, hA2⟩ := At.app hA
    rw [cN] at ha
    rw [cI] at hb
    rw [List.length_append] at hx ⊢
    show ∃ p, r.foldl (stepC l) (stepC l (c0, s) x) = _
    rcases hl.1 with rfl | rfl | rfl | ⟨rfl | rfl, rfl⟩
    · -- a name
      have u1 : upN 110 = 1 := rfl
      have u2 : upI 110 = 0 := rfl
      rw [u1] at ha hA2 hx ⊢
      rw [u2] at hb hA2 hx ⊢
      simp only [Nat.add_zero] at hA2 hx ⊢
      have lt : a < c.names.length := by omega
      have eL : letW c 110 a b = [(1, c.names[a], 0)] := by
        show [((1, c.names.getD a [], 0) : Tk)] = _
        rw [List.getD_eq_getElem?_getD, List.getElem?_eq_getElem lt]; rfl
      rw [eL] at hA1 hA2 hx ⊢
      obtain ⟨t0, _⟩ := At.cons hA1
      have e1 : stepC l (c0, s) 110 = (⟨c0.word, c0.names ++ [c.names[a]], c0.nums, c0.rg, c0.ex⟩, ⟨s.at_ + 1, s.parts, 0⟩) := by
        show ((⟨c0.word, c0.names ++ [(name l s).1], c0.nums, c0.rg, c0.ex⟩ : Cm), (name l s).2) = _
        rw [name_ok hw t0]
      rw [e1]
      obtain ⟨p, ih⟩ := steps_read l c h1 h2 r (a + 1) b ⟨c0.word, c0.names ++ [c.names[a]], c0.nums, c0.rg, c0.ex⟩ ⟨s.at_ + 1, s.parts, 0⟩ hl.2 rfl hA2 (by omega) (by omega) (fun q => by
        have := hx (List.mem_cons_of_mem _ q); exact ⟨this.1, this.2.1, by rw [this.2.2]; show _ = s.at_ + 1 + _; simp only [List.length_cons, List.length_nil]; omega⟩)
      refine ⟨p, ?_⟩
      rw [ih, List.append_assoc]
      have ed : [c.names[a]] ++ c.names.drop (a + 1) = c.names.drop a := by rw [List.singleton_append, ← List.drop_eq_getElem_cons lt]
      rw [ed]
      have m1 : (114 ∈ (110 :: r : List UInt8)) = (114 ∈ r) := by simp
      have m2 : (101 ∈ (110 :: r : List UInt8)) = (101 ∈ r) := by simp
      simp only [m1, m2, List.length_cons, List.length_nil]
      rw [show s.at_ + 1 + (shW c r (a + 1) b).length = s.at_ + (0 + 1 + (shW c r (a + 1) b).length) by omega]
    · -- a number
      have u1 : upN 105 = 0 := rfl
      have u2 : upI 105 = 1 := rfl
      rw [u1] at ha hA2 hx ⊢
      rw [u2] at hb hA2 hx ⊢
      simp only [Nat.add_zero] at hA2 hx ⊢
      have lt : b < c.nums.length := by omega
      have eL : letW c 105 a b = [(2, [], c.nums[b])] := by
        show [((2, [], c.nums.getD b 0) : Tk)] = _
        rw [List.getD_eq_getElem?_getD, List.getElem?_eq_getElem lt]; rfl
      rw [eL] at hA1 hA2 hx ⊢
      obtain ⟨t0, _⟩ := At.cons hA1
      have e1 : stepC l (c0, s) 105 = (⟨c0.word, c0.names, c0.nums ++ [c.nums[b]], c0.rg, c0.ex⟩, ⟨s.at_ + 1, s.parts, 0⟩) := by
        show ((⟨c0.word, c0.names, c0.nums ++ [(number l s).1], c0.rg, c0.ex⟩ : Cm), (number l s).2) = _
        rw [number_ok hw t0]
      rw [e1]
      obtain ⟨p, ih⟩ := steps_read l c h1 h2 r a (b + 1) ⟨c0.word, c0.names, c0.nums ++ [c.nums[b]], c0.rg, c0.ex⟩ ⟨s.at_ + 1, s.parts, 0⟩ hl.2 rfl hA2 (by omega) (by omega) (fun q => by
        have := hx (List.mem_cons_of_mem _ q); exact ⟨this.1, this.2.1, by rw [this.2.2]; show _ = s.at_ + 1 + _; simp only [List.length_cons, List.length_nil]; omega⟩)
      refine ⟨p, ?_⟩
      rw [ih, List.append_assoc]
      have ed : [c.nums[b]] ++ c.nums.drop (b + 1) = c.nums.drop b := by rw [List.singleton_append, ← List.drop_eq_getElem_cons lt]
      rw [ed]
      have m1 : (114 ∈ (105 :: r : List UInt8)) = (114 ∈ r) := by simp
      have m2 : (101 ∈ (105 :: r : List UInt8)) = (101 ∈ r) := by simp
      simp only [m1, m2, List.length_cons, List.length_nil]
      rw [show s.at_ + 1 + (shW c r a (b + 1)).length = s.at_ + (0 + 1 + (shW c r a (b + 1)).length) by omega]
    · -- the mark =
      have u1 : upN 61 = 0 := rfl
      have u2 : upI 61 = 0 := rfl
      rw [u1] at ha hA2 hx ⊢
      rw [u2] at hb hA2 hx ⊢
      simp only [Nat.add_zero] at hA2 hx ⊢
      have eL : letW c 61 a b = [(4, [61], 0)] := rfl
      rw [eL] at hA1 hA2 hx ⊢
      obtain ⟨t0, _⟩ := At.cons hA1
      have e1 : stepC l (c0, s) 61 = (c0, ⟨s.at_ + 1, s.parts, 0⟩) := by
        show (c0, mark l s [61]) = _
        rw [mark_ok hw t0]
      rw [e1]
      obtain ⟨p, ih⟩ := steps_read l c h1 h2 r a b c0 ⟨s.at_ + 1, s.parts, 0⟩ hl.2 rfl hA2 (by omega) (by omega) (fun q => by
        have := hx (List.mem_cons_of_mem _ q); exact ⟨this.1, this.2.1, by rw [this.2.2]; show _ = s.at_ + 1 + _; simp only [List.length_cons, List.length_nil]; omega⟩)
      refine ⟨p, ?_⟩
      rw [ih]
      have m1 : (114 ∈ (61 :: r : List UInt8)) = (114 ∈ r) := by simp
      have m2 : (101 ∈ (61 :: r : List UInt8)) = (101 ∈ r) := by simp
      simp only [m1, m2, List.length_cons, List.length_nil]
      rw [show s.at_ + 1 + (shW c r a b).length = s.at_ + (0 + 1 + (shW c r a b).length) by omega]
    · -- an expression, the last
      have u1 : upN 101 = 0 := rfl
      have u2 : upI 101 = 0 := rfl
      rw [u1] at ha
      rw [u2] at hb
      have ha : 0 + 0 + a = c.names.length := by rw [cN] at ha; omega
      have hb : 0 + 0 + b = c.nums.length := by rw [cI] at hb; omega
      have eL : letW c 101 a b = wordsX c.ex := rfl
      rw [eL] at hA1 hx ⊢
      obtain ⟨x1, x2, x3⟩ := hx List.mem_cons_self
      rw [shW, List.length_nil, Nat.add_zero] at x3 ⊢
      have ep := part_read 40 c.ex x1 l s hw x2 hA1 (fun z => by
        have e : (wordsX c.ex).length = 1 := by rw [words_leaf z]; rfl
        rw [e] at x3
        unfold isMk; rw [← x3, tkAt_end]; rfl)
      refine ⟨s.parts + cnt c.ex, ?_⟩
      show stepC l (c0, s) 101 = _
      have e1 : stepC l (c0, s) 101 = (⟨c0.word, c0.names, c0.nums, c0.rg, (part l 40 s).1⟩, (part l 40 s).2) := rfl
      rw [e1, ep, List.drop_of_length_le (by omega), List.drop_of_length_le (by omega), List.append_nil, List.append_nil, if_neg (by decide), if_pos (by decide)]
    · -- a range, the last
      have u1 : upN 114 = 0 := rfl
      have u2 : upI 114 = 0 := rfl
      rw [u1] at ha
      rw [u2] at hb
      have ha : 0 + 0 + a = c.names.length := by rw [cN] at ha; omega
      have hb : 0 + 0 + b = c.nums.length := by rw [cI] at hb; omega
      have eL : letW c 114 a b = rgW c.rg := rfl
      rw [eL] at hA1 ⊢
      rw [shW, List.length_nil, Nat.add_zero]
      refine ⟨s.parts, ?_⟩
      show stepC l (c0, s) 114 = _
      have e1 : stepC l (c0, s) 114 = (⟨c0.word, c0.names, c0.nums, (span l s).1, c0.ex⟩, (span l s).2) := rfl
      rw [e1, span_read hw hA1 h1 h2, List.drop_of_length_le (by omega), List.drop_of_length_le (by omega), List.append_nil, List.append_nil, if_pos (by decide), if_neg (by decide)]
end Lx
/-- The words of a right command are that command. -/
theorem cm_back {c : Lx.Cm} (h : RightC c) (hf : ∀ y ∈ tour c.ex 1, Fine y.1) {sh : List UInt8} (hs : Lx.shape c.word = some sh) : Lx.cmE (Lx.toldC c sh) = (c, -1, 0) := by
  have hg : (Lx.shape c.word).getD [] = sh := by rw [hs]; rfl
  obtain ⟨_, _, a3, a4, a5, a6, a7, a8, a9⟩ := h
  rw [hg] at a3 a4 a7 a8 a9
  obtain ⟨l, hl⟩ : ∃ l, Lx.toldC c sh = l := ⟨_, rfl⟩
  have hA : Lx.At l 0 ((1, c.word, 0) :: Lx.shW c sh 0 0) := by
    have := Lx.at_self (Lx.toldC c sh) []
    rw [List.append_nil, hl] at this
    rw [← hl] at this ⊢; exact this
  obtain ⟨t0, hA2⟩ := Lx.At.cons hA
  have hlen : l.length = 1 + (Lx.shW c sh 0 0).length := by rw [← hl]; unfold Lx.toldC; rw [List.length_cons]; omega
  have en := Lx.name_ok (l := l) (s := ⟨0, 0, 0⟩) rfl t0
  obtain ⟨p, hp⟩ := Lx.steps_read l c a5 a6 sh 0 0 ⟨c.word, [], [], ⟨0, 0, false, false⟩, Lx.leaf []⟩ ⟨1, 0, 0⟩ (Lx.shape_last (Lx.shape_in hs)) rfl hA2 (by omega) (by omega) (fun q => by
    have := right_ok (a9 q) hf
    exact ⟨this.1, by show 0 + _ ≤ 2000; have := this.2; omega, hlen⟩)
  have e1 : (if 114 ∈ sh then c.rg else (⟨0, 0, false, false⟩ : Lx.Rg)) = c.rg := by
    split
    · rfl
    · rename_i q; exact (a7 q).symm
  have e2 : (if 101 ∈ sh then c.ex else Lx.leaf []) = c.ex := by
    split
    · rfl
    · rename_i q; exact (a8 q).symm
  dsimp only at hp
  rw [e1, e2, List.drop_zero, List.drop_zero, List.nil_append, List.nil_append] at hp
  rw [hl]
  unfold Lx.cmE
  rw [en]
  dsimp only
  rw [hs]
  dsimp only
  rw [if_neg (by decide), hp]
  unfold Lx.told
  have ef : Lx.failed l ⟨1 + (Lx.shW c sh 0 0).length, p, 0⟩ = ⟨1 + (Lx.shW c sh 0 0).length, p, 0⟩ := by
    unfold Lx.failed; exact if_neg (fun z => by have := z.2; dsimp only at this; omega)
  dsimp only
  rw [ef, if_pos rfl]
end Go.Proofs.YtimjendkpjojoaaGreatDoor
