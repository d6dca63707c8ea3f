/- Q12, Q13, Q14, Q15 in one. -/
import Derived.Test.YtllhcpkpbipjlaaDoorKat
namespace Go.Proofs.YtllhcpkpbipjlaaDoor
set_option linter.unusedVariables false
set_option linter.unusedSimpArgs false
open Go.ChangeShapes Go.WideShapes Go.ChangeAt Go.RowKit

namespace Lx
/-- Two states that nothing told apart but, where something was wrong, the parts begun. -/
structure Eq2 (a b : St) : Prop where
  at_ : a.at_ = b.at_
  wrong : a.wrong = b.wrong
  parts : b.wrong = 0 → a.parts = b.parts
theorem Eq2.refl (a : St) : Eq2 a a := ⟨rfl, rfl, fun _ => rfl⟩
theorem Eq2.eq {a b : St} (h : Eq2 a b) (z : b.wrong = 0) : a = b := by
  obtain ⟨h1, h2, h3⟩ := h
  cases a; cases b
  simp at h1 h2 h3 z
  simp [h1, h2, h3 z]
theorem take_eq2 {a b : St} (h : Eq2 a b) (l : List Tk) (x : Bool) : (take l a x).1 = (take l b x).1 ∧ Eq2 (take l a x).2 (take l b x).2 := by
  by_cases z : b.wrong = 0
  · rw [h.eq z]; exact ⟨rfl, Eq2.refl _⟩
  · rw [take_bad' z, take_bad' (by rw [h.wrong]; exact z)]; exact ⟨rfl, h⟩
theorem mark_eq2 {a b : St} (h : Eq2 a b) (l : List Tk) (m : List UInt8) : Eq2 (mark l a m) (mark l b m) := by
  unfold mark; rw [h.at_]; exact (take_eq2 h l _).2
theorem number_eq2 {a b : St} (h : Eq2 a b) (l : List Tk) : (number l a).1 = (number l b).1 ∧ Eq2 (number l a).2 (number l b).2 := by
  unfold number; rw [h.at_]; exact ⟨by rw [(take_eq2 h l _).1], (take_eq2 h l _).2⟩
theorem numsL_eq2 (l : List Tk) : ∀ (n : Nat) (b : List UInt8) (acc : List Int) (s t : St), Eq2 s t → (numsL l n b acc s).1 = (numsL l n b acc t).1 ∧ (numsL l n b acc s).2.1 = (numsL l n b acc t).2.1 ∧ Eq2 (numsL l n b acc s).2.2 (numsL l n b acc t).2.2
  | 0, b, acc, s, t, h => ⟨rfl, rfl, h⟩
  | n + 1, b, acc, s, t, h => by
    have k := number_eq2 (mark_eq2 h l b) l
    have := numsL_eq2 l n [44] (acc ++ [(number l (mark l s b)).1]) _ _ k.2
    show (numsL l n [44] (acc ++ [(number l (mark l s b)).1]) (number l (mark l s b)).2).1 = (numsL l n [44] (acc ++ [(number l (mark l t b)).1]) (number l (mark l t b)).2).1 ∧ (numsL l n [44] (acc ++ [(number l (mark l s b)).1]) (number l (mark l s b)).2).2.1 = (numsL l n [44] (acc ++ [(number l (mark l t b)).1]) (number l (mark l t b)).2).2.1 ∧ Eq2 (numsL l n [44] (acc ++ [(number l (mark l s b)).1]) (number l (mark l s b)).2).2.2 (numsL l n [44] (acc ++ [(number l (mark l t b)).1]) (number l (mark l t b)).2).2.2
    rw [← k.1]; exact this
/-- The arguments: each is asked for, whatever was wrong. -/
def argsR (l : List Tk) (P : St → Ex × St) : Nat → List UInt8 → List Ex → St → List Ex × St
  | 0, b, acc, s => (acc, s)
  | n + 1, b, acc, s => argsR l P n [44] (acc ++ [(P (mark l s b)).1]) (P (mark l s b)).2
theorem argsR_bad (l : List Tk) (P : St → Ex × St) (hP : ∀ s, s.wrong ≠ 0 → (P s).2 = s) : ∀ (n : Nat) (b : List UInt8) (acc : List Ex) (s : St), s.wrong ≠ 0 → (argsR l P n b acc s).2 = s
  | 0, b, acc, s, h => rfl
  | n + 1, b, acc, s, h => by
    have m : mark l s b = s := by unfold mark; rw [take_bad' h]
    show (argsR l P n [44] _ (P (mark l s b)).2).2 = s
    rw [m, hP s h]
    exact argsR_bad l P hP n _ _ s h
theorem argsR_eq2 (l : List Tk) (P Q : St → Ex × St) (hP : ∀ s, s.wrong ≠ 0 → (P s).2 = s) (hO : ∀ s, s.wrong = 0 → On l s (Q s).2) (hI : ∀ s, PI s → s.wrong = 0 → PI (Q s).2)
    (hE : ∀ s, s.wrong = 0 → PI s → Eq2 (P s).2 (Q s).2 ∧ ((Q s).2.wrong = 0 → (P s).1 = (Q s).1)) :
    ∀ (n : Nat) (b : List UInt8) (acc acc' : List Ex) (s t : St), Eq2 s t → PI t → (t.wrong = 0 → acc = acc') → Eq2 (argsR l P n b acc s).2 (argsL l Q n b acc' t).2.2 ∧ ((argsL l Q n b acc' t).2.2.wrong = 0 → (argsR l P n b acc s).1 = (argsL l Q n b acc' t).1)
  | 0, b, acc, acc', s, t, h, hp, ha => ⟨h, ha⟩
  | n + 1, b, acc, acc', s, t, h, hp, ha => by
    have hm := mark_eq2 h l b
    have hpm : PI (mark l t b) := hp.on (mark_on l t b) (mark_parts l t b)
    unfold argsR argsL
    by_cases z : (mark l t b).wrong = 0
    · rw [if_pos z, hm.eq z]
      have e := hE _ z hpm
      refine argsR_eq2 l P Q hP hO hI hE n [44] _ _ _ _ e.1 (hI _ hpm z) (fun q => ?_)
      have tz : t.wrong = 0 := by
        by_cases y : t.wrong = 0
        · exact y
        · exact absurd (((mark_on l t b).stay y).2.symm.trans z) y
      rw [ha tz, e.2 q]
    · rw [if_neg z]
      have zs : (mark l s b).wrong ≠ 0 := by rw [hm.wrong]; exact z
      rw [hP _ zs]
      have st := (argsL_on l Q hO n [44] acc' (mark l t b)).stay z
      rw [argsR_bad l P hP n _ _ _ zs]
      refine ⟨⟨hm.at_.trans st.1.symm, hm.wrong.trans st.2.symm, fun q => absurd (st.2.symm.trans q) z⟩, fun q => absurd (st.2.symm.trans q) z⟩
def partR (l : List Tk) : Nat → St → Ex × St
  | k, s => if s.wrong ≠ 0 then (leaf [], s) else if isNm l s.at_ = true ∧ (k = 0 ∨ 2000 ≤ s.parts) then (leaf [], ⟨s.at_, s.parts, 111⟩) else
    match k with
    | 0 => (leaf (name l ⟨s.at_, s.parts + 1, s.wrong⟩).1, (name l ⟨s.at_, s.parts + 1, s.wrong⟩).2)
    | k + 1 => if (name l ⟨s.at_, s.parts + 1, s.wrong⟩).2.wrong = 0 ∧ opN (name l ⟨s.at_, s.parts + 1, s.wrong⟩).1 ≠ 0 ∧ isMk l (name l ⟨s.at_, s.parts + 1, s.wrong⟩).2.at_ [40] = true then
        (.mk (opN (name l ⟨s.at_, s.parts + 1, s.wrong⟩).1) [] (opA l (opN (name l ⟨s.at_, s.parts + 1, s.wrong⟩).1) (name l ⟨s.at_, s.parts + 1, s.wrong⟩).2).1 (argsR l (partR l k) (arN (opN (name l ⟨s.at_, s.parts + 1, s.wrong⟩).1)) (opA l (opN (name l ⟨s.at_, s.parts + 1, s.wrong⟩).1) (name l ⟨s.at_, s.parts + 1, s.wrong⟩).2).2.1 [] (opA l (opN (name l ⟨s.at_, s.parts + 1, s.wrong⟩).1) (name l ⟨s.at_, s.parts + 1, s.wrong⟩).2).2.2).1,
          mark l (argsR l (partR l k) (arN (opN (name l ⟨s.at_, s.parts + 1, s.wrong⟩).1)) (opA l (opN (name l ⟨s.at_, s.parts + 1, s.wrong⟩).1) (name l ⟨s.at_, s.parts + 1, s.wrong⟩).2).2.1 [] (opA l (opN (name l ⟨s.at_, s.parts + 1, s.wrong⟩).1) (name l ⟨s.at_, s.parts + 1, s.wrong⟩).2).2.2).2 [41])
      else (leaf (name l ⟨s.at_, s.parts + 1, s.wrong⟩).1, (name l ⟨s.at_, s.parts + 1, s.wrong⟩).2)
theorem partR_bad (l : List Tk) (k : Nat) (s : St) (h : s.wrong ≠ 0) : (partR l k s).2 = s := by
  unfold partR; rw [if_pos h]
theorem begun_full {l : List Tk} {s : St} {z : Bool} (hw : s.wrong = 0) (hn : isNm l s.at_ = true) (h : z = true ∨ s.parts = 2000) : begun l z s = ⟨s.at_, s.parts + 1, 111⟩ := by
  unfold begun; rw [if_pos ⟨hw, hn, h⟩]
theorem begun_free {l : List Tk} {s : St} {z : Bool} (h : ¬ (isNm l s.at_ = true ∧ (z = true ∨ s.parts = 2000))) : begun l z s = ⟨s.at_, s.parts + 1, s.wrong⟩ := by
  unfold begun; rw [if_neg (fun e => h e.2)]
theorem name_bad {l : List Tk} {s : St} (h : s.wrong ≠ 0) : name l s = ([], s) := by
  unfold name; rw [take_bad' h]
theorem partR_eq2 (l : List Tk) : ∀ (k : Nat) (s : St), s.wrong = 0 → PI s → Eq2 (partR l k s).2 (part l k s).2 ∧ ((part l k s).2.wrong = 0 → (partR l k s).1 = (part l k s).1)
  | 0, s, hw, hp => by
    by_cases hn : isNm l s.at_ = true
    · have e1 : partR l 0 s = (leaf [], ⟨s.at_, s.parts, 111⟩) := by unfold partR; rw [if_neg (fun q => q hw), if_pos ⟨hn, .inl rfl⟩]
      have e2 : part l 0 s = (leaf [], ⟨s.at_, s.parts + 1, 111⟩) := by unfold part; rw [begun_full hw hn (.inl rfl), name_bad (by show (111 : Int) ≠ 0; decide)]
      rw [e1, e2]
      exact ⟨⟨rfl, rfl, fun q => absurd (show (111 : Int) = 0 from q) (by decide)⟩, fun _ => rfl⟩
    · have e1 : partR l 0 s = (leaf (name l ⟨s.at_, s.parts + 1, s.wrong⟩).1, (name l ⟨s.at_, s.parts + 1, s.wrong⟩).2) := by unfold partR; rw [if_neg (fun q => q hw), if_neg (fun q => hn q.1)]
      have e2 : part l 0 s = (leaf (name l ⟨s.at_, s.parts + 1, s.wrong⟩).1, (name l ⟨s.at_, s.parts + 1, s.wrong⟩).2) := by unfold part; rw [begun_free (fun q => hn q.1)]
      rw [e1, e2]
      exact ⟨Eq2.refl _, fun _ => rfl⟩
  | k + 1, s, hw, hp => by
    have hp2 := hp.2 hw
    by_cases hn : isNm l s.at_ = true ∧ s.parts = 2000
    · have e1 : partR l (k + 1) s = (leaf [], ⟨s.at_, s.parts, 111⟩) := by unfold partR; rw [if_neg (fun q => q hw), if_pos ⟨hn.1, .inr (by omega)⟩]
      have e2 : part l (k + 1) s = (leaf [], ⟨s.at_, s.parts + 1, 111⟩) := by
        unfold part
        rw [begun_full hw hn.1 (.inr hn.2), name_bad (by show (111 : Int) ≠ 0; decide)]
        exact if_neg (fun q => absurd (show (111 : Int) = 0 from q.1) (by decide))
      rw [e1, e2]
      exact ⟨⟨rfl, rfl, fun q => absurd (show (111 : Int) = 0 from q) (by decide)⟩, fun _ => rfl⟩
    · have eb : begun l false s = ⟨s.at_, s.parts + 1, s.wrong⟩ := begun_free (fun q => q.2.elim (fun e => by cases e) (fun e => hn ⟨q.1, e⟩))
      have hpn := begun_name l false s hp2
      rw [eb] at hpn
      unfold part partR
      rw [eb, if_neg (fun q => q hw), if_neg (fun q => q.2.elim (fun e => by cases e) (fun e => hn ⟨q.1, by omega⟩))]
      dsimp only
      obtain ⟨nx, hnx⟩ : ∃ z, name l ⟨s.at_, s.parts + 1, s.wrong⟩ = z := ⟨_, rfl⟩
      rw [hnx] at hpn ⊢
      by_cases c : nx.2.wrong = 0 ∧ opN nx.1 ≠ 0 ∧ isMk l nx.2.at_ [40] = true
      · rw [if_pos c, if_pos c]
        have hpA : PI (opA l (opN nx.1) nx.2).2.2 := hpn.on (numsL_on l _ _ _ _) (numsL_parts l _ _ _ _)
        have e := argsR_eq2 l (partR l k) (part l k) (fun s q => partR_bad l k s q) (fun s _ => part_on l k s) (fun s q r => part_PI l k s (q.2 r)) (fun s q r => partR_eq2 l k s q r) (arN (opN nx.1)) (opA l (opN nx.1) nx.2).2.1 [] [] _ _ (Eq2.refl (opA l (opN nx.1) nx.2).2.2) hpA (fun _ => rfl)
        refine ⟨mark_eq2 e.1 l [41], fun q => ?_⟩
        have q2 := (take_ok (show (take l (argsL l (part l k) (arN (opN nx.1)) (opA l (opN nx.1) nx.2).2.1 [] (opA l (opN nx.1) nx.2).2.2).2.2 _).2.wrong = 0 from q)).1
        show Ex.mk _ [] _ _ = Ex.mk _ [] _ _
        rw [e.2 q2]; rfl
      · rw [if_neg c, if_neg c]
        exact ⟨Eq2.refl _, fun _ => rfl⟩
end Lx

namespace Lx
theorem name_eq2 {a b : St} (h : Eq2 a b) (l : List Tk) : (name l a).1 = (name l b).1 ∧ Eq2 (name l a).2 (name l b).2 := by
  unfold name; rw [h.at_]; exact ⟨by rw [(take_eq2 h l _).1], (take_eq2 h l _).2⟩
def stepR (l : List Tk) (c : Cm × St) (x : UInt8) : Cm × St :=
  if x = 110 then (⟨c.1.word, c.1.names ++ [(name l c.2).1], c.1.nums, c.1.rg, c.1.ex⟩, (name l c.2).2)
  else if x = 105 then (⟨c.1.word, c.1.names, c.1.nums ++ [(number l c.2).1], c.1.rg, c.1.ex⟩, (number l c.2).2)
  else if x = 101 then (⟨c.1.word, c.1.names, c.1.nums, c.1.rg, (partR l 40 c.2).1⟩, (partR l 40 c.2).2)
  else if x = 114 then (⟨c.1.word, c.1.names, c.1.nums, (spanR l c.2).1, c.1.ex⟩, (spanR l c.2).2)
  else (c.1, mark l c.2 [x])
theorem endE_eq2 {a b : St} (h : Eq2 a b) (l : List Tk) : (endE l a).1 = (endE l b).1 ∧ Eq2 (endE l a).2 (endE l b).2 := by
  have k := number_eq2 h l
  unfold endE
  rw [h.at_, h.wrong]
  split
  · exact ⟨rfl, h⟩
  · exact ⟨by rw [k.1], k.2⟩
theorem span_eq2 {a b : St} (h : Eq2 a b) (l : List Tk) : (span l a).1 = (span l b).1 ∧ Eq2 (span l a).2 (span l b).2 := by
  have k1 := endE_eq2 (mark_eq2 h l [91]) l
  have k2 := endE_eq2 (mark_eq2 k1.2 l [58]) l
  refine ⟨?_, mark_eq2 k2.2 l [93]⟩
  show Rg.mk (endE l (mark l a [91])).1.1 (endE l (mark l (endE l (mark l a [91])).2 [58])).1.1 (endE l (mark l a [91])).1.2 (endE l (mark l (endE l (mark l a [91])).2 [58])).1.2 = Rg.mk (endE l (mark l b [91])).1.1 (endE l (mark l (endE l (mark l b [91])).2 [58])).1.1 (endE l (mark l b [91])).1.2 (endE l (mark l (endE l (mark l b [91])).2 [58])).1.2
  rw [k1.1, k2.1]
theorem On.ok {l : List Tk} {s t : St} (o : On l s t) (h : t.wrong = 0) : s.wrong = 0 := by
  by_cases z : s.wrong = 0
  · exact z
  · exact absurd ((o.stay z).2.symm.trans h) z
theorem step_eq2 (l : List Tk) (c d : Cm × St) (x : UInt8) (h : Eq2 c.2 d.2) (hp : d.2.wrong = 0 → PI d.2) (hc : d.2.wrong = 0 → c.1 = d.1) :
    Eq2 (stepR l c x).2 (stepC l d x).2 ∧ ((stepC l d x).2.wrong = 0 → PI (stepC l d x).2) ∧ ((stepC l d x).2.wrong = 0 → (stepR l c x).1 = (stepC l d x).1) := by
  unfold stepR stepC
  by_cases x1 : x = 110
  · rw [if_pos x1, if_pos x1]
    have k := name_eq2 h l
    exact ⟨k.2, fun q => (hp ((name_on l d.2).ok q)).on (name_on l d.2) (name_parts l d.2), fun q => by rw [hc ((name_on l d.2).ok q), k.1]⟩
  · rw [if_neg x1, if_neg x1]
    by_cases x2 : x = 105
    · rw [if_pos x2, if_pos x2]
      have k := number_eq2 h l
      exact ⟨k.2, fun q => (hp ((number_on l d.2).ok q)).on (number_on l d.2) (number_parts l d.2), fun q => by rw [hc ((number_on l d.2).ok q), k.1]⟩
    · rw [if_neg x2, if_neg x2]
      by_cases x3 : x = 101
      · rw [if_pos x3, if_pos x3]
        dsimp only
        have o := part_on l 40 d.2
        by_cases z : d.2.wrong = 0
        · rw [h.eq z]
          have e := partR_eq2 l 40 d.2 z (hp z)
          exact ⟨e.1, fun _ => part_PI l 40 d.2 ((hp z).2 z), fun q => by rw [hc z, e.2 q]⟩
        · have zs : c.2.wrong ≠ 0 := by rw [h.wrong]; exact z
          rw [partR_bad l 40 c.2 zs]
          have st := o.stay z
          refine ⟨⟨h.at_.trans st.1.symm, h.wrong.trans st.2.symm, fun q => absurd (o.ok q) z⟩, fun q => absurd (o.ok q) z, fun q => absurd (o.ok q) z⟩
      · rw [if_neg x3, if_neg x3]
        by_cases x4 : x = 114
        · rw [if_pos x4, if_pos x4]
          dsimp only
          have e := spanR_eq l c.2
          have k := span_eq2 h l
          rw [e.1]
          refine ⟨k.2, fun q => (hp ((span_on l d.2).ok q)).on (span_on l d.2) (span_parts l d.2), fun q => ?_⟩
          have q2 : (span l c.2).2.wrong = 0 := by rw [k.2.wrong]; exact q
          rw [hc ((span_on l d.2).ok q), e.2 q2, k.1]
        · rw [if_neg x4, if_neg x4]
          exact ⟨mark_eq2 h l [x], fun q => (hp ((mark_on l d.2 [x]).ok q)).on (mark_on l d.2 [x]) (mark_parts l d.2 [x]), fun q => hc ((mark_on l d.2 [x]).ok q)⟩
theorem steps_eq2 (l : List Tk) : ∀ (sh : List UInt8) (c d : Cm × St), Eq2 c.2 d.2 → (d.2.wrong = 0 → PI d.2) → (d.2.wrong = 0 → c.1 = d.1) →
    Eq2 (sh.foldl (stepR l) c).2 (sh.foldl (stepC l) d).2 ∧ ((sh.foldl (stepC l) d).2.wrong = 0 → (sh.foldl (stepR l) c).1 = (sh.foldl (stepC l) d).1)
  | [], c, d, h, _, hc => ⟨h, hc⟩
  | x :: r, c, d, h, hp, hc => by
    obtain ⟨a1, a2, a3⟩ := step_eq2 l c d x h hp hc
    exact steps_eq2 l r _ _ a1 a2 a3
end Lx

namespace Lx
theorem failed_eq2 {a b : St} (h : Eq2 a b) (l : List Tk) : (failed l a).at_ = (failed l b).at_ ∧ (failed l a).wrong = (failed l b).wrong := by
  unfold failed
  rw [h.at_, h.wrong]
  split
  · exact ⟨rfl, rfl⟩
  · exact ⟨h.at_, h.wrong⟩
theorem failed_ok {l : List Tk} {s : St} (h : (failed l s).wrong = 0) : s.wrong = 0 := by
  unfold failed at h
  split at h
  · exact absurd (show (110 : Int) = 0 from h) (by decide)
  · exact h
theorem told_eq2 {α : Type} (l : List Tk) (z : α) (r r' : α × St) (h : Eq2 r.2 r'.2) (ht : r'.2.wrong = 0 → r.1 = r'.1) : told l z r = told l z r' := by
  have f := failed_eq2 h l
  unfold told
  rw [f.1, f.2]
  by_cases q : (failed l r'.2).wrong = 0
  · rw [if_pos q, if_pos q, ht (failed_ok q)]
  · rw [if_neg q, if_neg q]
def exprR (l : List Tk) : Ex × Int × Int := told l (leaf []) (partR l 40 ⟨0, 0, 0⟩)
theorem pi_zero (i : Nat) : PI ⟨i, 0, 0⟩ := ⟨Nat.zero_le _, fun _ => Nat.zero_le _⟩
theorem exprR_eq (l : List Tk) : exprR l = exprE l := by
  have e := partR_eq2 l 40 ⟨0, 0, 0⟩ rfl (pi_zero 0)
  exact told_eq2 l _ _ _ e.1 e.2
def cmR (l : List Tk) : Cm × Int × Int := if (tkAt l 0).1 ≠ 1 then (noCm, 0, 110) else match shape (tkAt l 0).2.1 with
  | none => (noCm, 0, 110)
  | some sh => told l noCm (sh.foldl (stepR l) (⟨(tkAt l 0).2.1, [], [], ⟨0, 0, false, false⟩, leaf []⟩, ⟨1, 0, 0⟩))
theorem cmR_eq (l : List Tk) : cmR l = cmE l := by
  unfold cmR
  by_cases k : (tkAt l 0).1 = 1
  · have hn : name l ⟨0, 0, 0⟩ = ((tkAt l 0).2.1, ⟨1, 0, 0⟩) := by
      unfold name; rw [show isNm l (⟨0, 0, 0⟩ : St).at_ = true from decide_eq_true k, take_yes' rfl]
    rw [if_neg (fun q => q k)]
    unfold cmE
    rw [hn]
    dsimp only
    cases hs : shape (tkAt l 0).2.1 with
    | none => rfl
    | some sh =>
      dsimp only
      rw [if_neg (by decide)]
      have e := steps_eq2 l sh (⟨(tkAt l 0).2.1, [], [], ⟨0, 0, false, false⟩, leaf []⟩, ⟨1, 0, 0⟩) (⟨(tkAt l 0).2.1, [], [], ⟨0, 0, false, false⟩, leaf []⟩, ⟨1, 0, 0⟩) (Eq2.refl _) (fun _ => pi_zero 1) (fun _ => rfl)
      exact told_eq2 l _ _ _ e.1 e.2
  · have hn : (name l ⟨0, 0, 0⟩).2 = ⟨0, 0, 110⟩ := by
      unfold name; rw [show isNm l (⟨0, 0, 0⟩ : St).at_ = false from decide_eq_false k, take_no' rfl]
    rw [if_pos k]
    unfold cmE
    rw [hn]
    cases shape (name l ⟨0, 0, 0⟩).1 with
    | none => rfl
    | some sh => exact (if_pos (show (110 : Int) ≠ 0 by decide)).symm
end Lx

namespace Lx
/-- The mark ahead of an operand: none ahead of the first. -/
def mk1 (l : List Tk) (j : Nat) (s : St) : St := if j = 0 then s else mark l s [44]
/-- The one loop: k operands from the j-th on, of which those below N are numbers. -/
def goX (l : List Tk) (P : St → Ex × St) (N : Nat) : Nat → Nat → List Int → List Ex → St → List Int × List Ex × St
  | 0, _, nu, ar, s => (nu, ar, s)
  | k + 1, j, nu, ar, s => if j < N then goX l P N k (j + 1) (nu ++ [(number l (mk1 l j s)).1]) ar (number l (mk1 l j s)).2 else goX l P N k (j + 1) nu (ar ++ [(P (mk1 l j s)).1]) (P (mk1 l j s)).2
theorem goX_num {l : List Tk} {P : St → Ex × St} {N k j : Nat} {nu : List Int} {ar : List Ex} {s : St} (h : j < N) : goX l P N (k + 1) j nu ar s = goX l P N k (j + 1) (nu ++ [(number l (mk1 l j s)).1]) ar (number l (mk1 l j s)).2 := by
  rw [goX, if_pos h]
theorem goX_arg {l : List Tk} {P : St → Ex × St} {N k j : Nat} {nu : List Int} {ar : List Ex} {s : St} (h : ¬ j < N) : goX l P N (k + 1) j nu ar s = goX l P N k (j + 1) nu (ar ++ [(P (mk1 l j s)).1]) (P (mk1 l j s)).2 := by
  rw [goX, if_neg h]
theorem mk1_pos (l : List Tk) {j : Nat} (h : j ≠ 0) (s : St) : mk1 l j s = mark l s [44] := if_neg h
theorem goX_args (l : List Tk) (P : St → Ex × St) (N : Nat) : ∀ (k j : Nat) (nu : List Int) (ar : List Ex) (s : St), N ≤ j → j ≠ 0 → goX l P N k j nu ar s = (nu, (argsR l P k [44] ar s).1, (argsR l P k [44] ar s).2)
  | 0, j, nu, ar, s, _, _ => rfl
  | k + 1, j, nu, ar, s, h, h0 => by
    rw [goX_arg (by omega), mk1_pos l h0, goX_args l P N k (j + 1) _ _ _ (by omega) (by omega)]
    rfl
theorem goX_nums (l : List Tk) (P : St → Ex × St) (N M : Nat) : ∀ (k j : Nat) (nu : List Int) (ar : List Ex) (s : St), j + k = N → j ≠ 0 → goX l P N (k + M) j nu ar s = ((numsL l k [44] nu s).1, (argsR l P M [44] ar (numsL l k [44] nu s).2.2).1, (argsR l P M [44] ar (numsL l k [44] nu s).2.2).2)
  | 0, j, nu, ar, s, h, h0 => by
    rw [Nat.zero_add, goX_args l P N M j nu ar s (by omega) h0]; rfl
  | k + 1, j, nu, ar, s, h, h0 => by
    rw [show k + 1 + M = (k + M) + 1 by omega, goX_num (by omega), mk1_pos l h0, goX_nums l P N M k (j + 1) _ _ _ (by omega) (by omega)]
    rfl
theorem numsL_b (l : List Tk) : ∀ (n : Nat) (nu : List Int) (s : St), (numsL l n [44] nu s).2.1 = [44]
  | 0, _, _ => rfl
  | n + 1, nu, s => numsL_b l n _ _
/-- The loop's whole. -/
theorem goX_all (l : List Tk) (P : St → Ex × St) (N M : Nat) (h : 1 ≤ N + M) (s : St) : goX l P N (N + M) 0 [] [] (mark l s [40]) = ((numsL l N [40] [] s).1, (argsR l P M (numsL l N [40] [] s).2.1 [] (numsL l N [40] [] s).2.2).1, (argsR l P M (numsL l N [40] [] s).2.1 [] (numsL l N [40] [] s).2.2).2) := by
  cases N with
  | zero =>
    cases M with
    | zero => omega
    | succ m =>
      rw [show 0 + (m + 1) = m + 1 by omega, goX_arg (by omega), goX_args l P 0 m 1 _ _ _ (by omega) (by omega)]
      rfl
  | succ n =>
    rw [show n + 1 + M = (n + M) + 1 by omega, goX_num (by omega), goX_nums l P (n + 1) M n 1 _ _ _ (by omega) (by omega)]
    have e : (numsL l (n + 1) [40] [] s).2.1 = [44] := numsL_b l n _ _
    rw [e]
    rfl
/-- Operators have operands. -/
theorem opN_some (w : List UInt8) (h : opN w ≠ 0) : 1 ≤ nuN (opN w) + arN (opN w) := by
  have hl := opN_lt w
  obtain ⟨o, ho⟩ : ∃ o, opN w = o := ⟨_, rfl⟩
  rw [ho] at h hl ⊢
  match o, hl, h with
  | 0, _, h => exact absurd rfl h
  | 1, _, _ => decide
  | 2, _, _ => decide
  | 3, _, _ => decide
  | 4, _, _ => decide
  | 5, _, _ => decide
  | 6, _, _ => decide
  | 7, _, _ => decide
  | 8, _, _ => decide
  | 9, _, _ => decide
  | 10, _, _ => decide
  | 11, _, _ => decide
  | 12, _, _ => decide
/-- The state behind the part's word. -/
def nmS (l : List Tk) (s : St) : List UInt8 × St := name l ⟨s.at_, s.parts + 1, s.wrong⟩
/-- What is done behind the tests. -/
def partY (l : List Tk) (k : Nat) (b : List UInt8 × St) : Ex × St :=
  if b.2.wrong = 0 ∧ opN b.1 ≠ 0 ∧ isMk l b.2.at_ [40] = true then
    (.mk (opN b.1) [] (goX l (partR l (k - 1)) (nuN (opN b.1)) (nuN (opN b.1) + arN (opN b.1)) 0 [] [] (mark l b.2 [40])).1 (goX l (partR l (k - 1)) (nuN (opN b.1)) (nuN (opN b.1) + arN (opN b.1)) 0 [] [] (mark l b.2 [40])).2.1, mark l (goX l (partR l (k - 1)) (nuN (opN b.1)) (nuN (opN b.1) + arN (opN b.1)) 0 [] [] (mark l b.2 [40])).2.2 [41])
  else (leaf b.1, b.2)
theorem name_wrong {l : List Tk} {s : St} (h : isNm l s.at_ = false) (z : s.wrong = 0) : name l s = ([], ⟨s.at_, s.parts, 110⟩) := by
  unfold name; rw [h, take_no' z]
theorem partR_Y (l : List Tk) (k : Nat) (s : St) (hw : s.wrong = 0) (hf : ¬ (isNm l s.at_ = true ∧ (k = 0 ∨ 2000 ≤ s.parts))) : partR l k s = partY l k (nmS l s) := by
  cases k with
  | zero =>
    unfold partR
    rw [if_neg (fun q => q hw), if_neg hf]
    have hn : isNm l s.at_ = false := by
      cases e : isNm l s.at_ with
      | false => rfl
      | true => exact absurd ⟨e, .inl rfl⟩ hf
    unfold partY nmS
    rw [name_wrong (s := ⟨s.at_, s.parts + 1, s.wrong⟩) hn hw, if_neg (fun q => absurd (show (110 : Int) = 0 from q.1) (by decide))]
  | succ k =>
    unfold partR
    rw [if_neg (fun q => q hw), if_neg hf]
    unfold partY
    rw [show k + 1 - 1 = k by omega]
    show (if (nmS l s).2.wrong = 0 ∧ opN (nmS l s).1 ≠ 0 ∧ isMk l (nmS l s).2.at_ [40] = true then _ else _) = _
    by_cases c : (nmS l s).2.wrong = 0 ∧ opN (nmS l s).1 ≠ 0 ∧ isMk l (nmS l s).2.at_ [40] = true
    · rw [if_pos c, if_pos c, goX_all l _ _ _ (opN_some _ c.2.1)]; rfl
    · rw [if_neg c, if_neg c]; rfl
theorem partR_wrong (l : List Tk) (k : Nat) (s : St) (hw : s.wrong ≠ 0) : partR l k s = (leaf [], s) := by
  unfold partR; rw [if_pos hw]
theorem partR_full (l : List Tk) (k : Nat) (s : St) (hw : s.wrong = 0) (hf : isNm l s.at_ = true ∧ (k = 0 ∨ 2000 ≤ s.parts)) : partR l k s = (leaf [], ⟨s.at_, s.parts, 111⟩) := by
  unfold partR; rw [if_neg (fun q => q hw), if_pos hf]
theorem nmS_PI (l : List Tk) (k : Nat) (s : St) (hw : s.wrong = 0) (hp : PI s) (hf : ¬ (isNm l s.at_ = true ∧ (k = 0 ∨ 2000 ≤ s.parts))) : PI (nmS l s).2 := by
  have := begun_name l (decide (k = 0)) s (hp.2 hw)
  rwa [begun_free (fun q => hf ⟨q.1, q.2.imp of_decide_eq_true (fun e => by omega)⟩)] at this
theorem argsR_PI (l : List Tk) (P : St → Ex × St) (hP : ∀ s, PI s → PI (P s).2) : ∀ (n : Nat) (b : List UInt8) (acc : List Ex) (s : St), PI s → PI (argsR l P n b acc s).2
  | 0, b, acc, s, h => h
  | n + 1, b, acc, s, h => argsR_PI l P hP n _ _ _ (hP _ (h.on (mark_on l s b) (mark_parts l s b)))
theorem mk1_on (l : List Tk) (j : Nat) (s : St) : On l s (mk1 l j s) := by
  unfold mk1; split
  · exact On.refl l s
  · exact mark_on l s _
theorem mk1_parts (l : List Tk) (j : Nat) (s : St) : (mk1 l j s).parts = s.parts := by
  unfold mk1; split
  · rfl
  · exact mark_parts l s _
theorem goX_PI (l : List Tk) (P : St → Ex × St) (hP : ∀ s, PI s → PI (P s).2) (N : Nat) : ∀ (k j : Nat) (nu : List Int) (ar : List Ex) (s : St), PI s → PI (goX l P N k j nu ar s).2.2
  | 0, _, _, _, s, h => h
  | k + 1, j, nu, ar, s, h => by
    have h1 := h.on (mk1_on l j s) (mk1_parts l j s)
    by_cases q : j < N
    · rw [goX_num q]; exact goX_PI l P hP N k _ _ _ _ (h1.on (number_on l _) (number_parts l _))
    · rw [goX_arg q]; exact goX_PI l P hP N k _ _ _ _ (hP _ h1)
theorem partR_PI (l : List Tk) : ∀ (k : Nat) (s : St), PI s → PI (partR l k s).2 := by
  intro k
  induction k with
  | zero =>
    intro s hp
    by_cases hw : s.wrong = 0
    · by_cases hf : isNm l s.at_ = true ∧ ((0 : Nat) = 0 ∨ 2000 ≤ s.parts)
      · rw [partR_full l 0 s hw hf]; exact ⟨hp.1, fun q => absurd (show (111 : Int) = 0 from q) (by decide)⟩
      · rw [partR_Y l 0 s hw hf]
        have hn := nmS_PI l 0 s hw hp hf
        have hn0 : isNm l s.at_ = false := by
          cases e : isNm l s.at_ with
          | false => rfl
          | true => exact absurd ⟨e, .inl rfl⟩ hf
        unfold partY
        rw [if_neg (fun q => by
          have e : (nmS l s).2.wrong = 110 := by unfold nmS; rw [name_wrong (s := ⟨s.at_, s.parts + 1, s.wrong⟩) hn0 hw]
          exact absurd (e.symm.trans q.1) (by decide))]
        exact hn
    · rw [partR_wrong l 0 s hw]; exact hp
  | succ k ih =>
    intro s hp
    by_cases hw : s.wrong = 0
    · by_cases hf : isNm l s.at_ = true ∧ (k + 1 = 0 ∨ 2000 ≤ s.parts)
      · rw [partR_full l _ s hw hf]; exact ⟨hp.1, fun q => absurd (show (111 : Int) = 0 from q) (by decide)⟩
      · rw [partR_Y l _ s hw hf]
        have hn := nmS_PI l _ s hw hp hf
        unfold partY
        split
        · exact (goX_PI l _ ih _ _ _ _ _ _ (hn.on (mark_on l _ _) (mark_parts l _ _))).on (mark_on l _ _) (mark_parts l _ _)
        · exact hn
    · rw [partR_wrong l _ s hw]; exact hp
end Lx
end Go.Proofs.YtllhcpkpbipjlaaDoor
