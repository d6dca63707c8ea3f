/- What is read out of a line is right, plainly. -/
import Derived.Test.YtimjendkpjojoaaGreatDoorKad
import Derived.Test.YtimjendkpjojoaaGreatDoorKam
namespace Go.Proofs.YtimjendkpjojoaaGreatDoor
set_option linter.unusedVariables false
set_option linter.unusedSimpArgs false
open Go.ChangeShapes Go.WideShapes Go.ChangeAt Go.RowKit
theorem pi_range {l : List UInt8} {v : Int} (h : piOf l = some v) : -9223372036854775808 ≤ v ∧ v ≤ 9223372036854775807 := by
  unfold piOf at h
  split at h
  · rename_i u hu
    injection h with h
    subst h
    unfold Lib.parseIntB at hu
    split at hu
    · cases hu
    · dsimp only at hu
      split at hu
      · cases hu
      · cases hu
      · split at hu
        · cases hu
        · split at hu
          · cases hu
          · rename_i h1 h2
            injection hu with hu
            split at hu
            · rename_i h3
              have : ¬ (2 ^ (64 - 1) < _) := fun z => h2 ⟨h3, z⟩
              omega
            · rename_i h3
              have : ¬ (2 ^ (64 - 1) ≤ _) := fun z => h1 ⟨h3, z⟩
              omega
  · cases h
theorem onNth_some {Y k n : Int} (h : onNth Y k = some n) : -9999 ≤ Y ∧ Y ≤ 9999 ∧ 1 ≤ k ∧ k ≤ 365 + Cal.lp Y ∧ Cal.start Y + (k - 1) = n := by
  unfold onNth at h
  split at h
  · rename_i v; exact ⟨v.1, v.2.1, v.2.2.1, v.2.2.2, by simpa using h⟩
  · cases h
theorem onWeek_some {Y k d n : Int} (h : onWeek Y k d = some n) : 1 ≤ k ∧ k ≤ Cal.weeks Y ∧ 1 ≤ d ∧ d ≤ 7 ∧ -4371587 ≤ n ∧ n < 2932897 ∧ Cal.op Y + (k - 1) * 7 + (d - 1) = n := by
  unfold onWeek at h
  split at h
  · rename_i v
    split at h
    · rename_i r
      have e : Cal.op Y + (k - 1) * 7 + (d - 1) = n := by simpa using h
      exact ⟨v.1, v.2.1, v.2.2.1, v.2.2.2, by omega, by omega, e⟩
    · cases h
  · cases h

def dok (n : Int) : Bool := decide (-4371587 ≤ n ∧ n < 2932897)
theorem date_range {y m d n : Int} (h : onDate y m d = some n) : dok n = true := by
  unfold onDate at h
  split at h
  · rename_i v
    cases h
    exact decide_eq_true v.range
  · cases h
theorem nth_range {y k n : Int} (h : onNth y k = some n) : dok n = true := by
  obtain ⟨h1, h2, h3, h4, rfl⟩ := onNth_some h
  have a := Cal.start_mono (-9999) y h1
  have b := Cal.start_mono (y + 1) 10000 (by omega)
  have c := Cal.start_succ y
  have e1 : Cal.start (-9999) = -4371587 := by decide
  have e2 : Cal.start 10000 = 2932897 := by decide
  exact decide_eq_true (by omega)
theorem week_range {y k d n : Int} (h : onWeek y k d = some n) : dok n = true := by
  have := onWeek_some h
  exact decide_eq_true ⟨this.2.2.2.2.1, this.2.2.2.2.2.1⟩
theorem tail_range {y : Int} {t : List UInt8} {n : Int} (h : tailOf y t = some n) : dok n = true := by
  unfold tailOf at h
  split at h
  · split at h
    · exact date_range h
    · split at h
      · exact week_range h
      · cases h
  · split at h
    · exact nth_range h
    · cases h
  · cases h
theorem read_range {s : List UInt8} {n : Int} (h : readOf s = some n) : dok n = true := by
  unfold readOf restOf at h
  split at h
  · split at h
    · split at h
      · cases h
      · exact tail_range h
    · cases h
  · cases h

namespace Lx
/-- The names among tokens are right. -/
def NmT (l : List Tk) : Prop := ∀ t ∈ l, t.1 = 1 → nameOk t.2.1 = true
theorem name_R {l : List Tk} (h : NmT l) {s : St} (hw : (name l s).2.wrong = 0) : nameOk (name l s).1 = true := by
  obtain ⟨k1, k2, _⟩ := take_ok (show (take l s _).2.wrong = 0 from hw)
  have k3 : (tkAt l s.at_).1 = 1 := of_decide_eq_true k2
  have hl := isNm_lt k2
  have e : (name l s).1 = (tkAt l s.at_).2.1 := by
    unfold name take
    rw [if_pos k1, if_pos k2]
  rw [e]
  have e2 : tkAt l s.at_ = l[s.at_] := by unfold tkAt; rw [List.getD_eq_getElem?_getD, List.getElem?_eq_getElem hl]; rfl
  rw [e2] at k3 ⊢
  exact h _ (List.getElem_mem hl) k3
/-- A right expression, of at most a depth. -/
def Rx : Nat → Ex → Prop
  | 0, _ => False
  | k + 1, .mk op nm nu xs => (op = 0 ∧ nameOk nm = true ∧ nu = [] ∧ xs = []) ∨ (1 ≤ op ∧ op ≤ 12 ∧ nm = [] ∧ nu.length = nuN op.toNat ∧ xs.length = arN op.toNat ∧ ∀ x ∈ xs, Rx k x)
theorem argsL_right (l : List Tk) (P : St → Ex × St) (k : Nat) (hP : ∀ s, s.wrong = 0 → (P s).2.wrong = 0 → Rx k (P s).1 ∧ (P s).2.parts = s.parts + cnt (P s).1) : ∀ (n : Nat) (b : List UInt8) (acc : List Ex) (s : St), (argsL l P n b acc s).2.2.wrong = 0 → s.wrong = 0 ∧ ∃ r : List Ex, (argsL l P n b acc s).1 = acc ++ r ∧ r.length = n ∧ (∀ x ∈ r, Rx k x) ∧ (argsL l P n b acc s).2.2.parts = s.parts + cnts r
  | 0, b, acc, s, h => ⟨h, [], (List.append_nil _).symm, rfl, (fun x hx => by cases hx), by rw [cnts]; rfl⟩
  | n + 1, b, acc, s, h => by
    unfold argsL at h ⊢
    by_cases z : (mark l s b).wrong = 0
    · rw [if_pos z] at h ⊢
      obtain ⟨h1, r, h3, h4, h5, h6⟩ := argsL_right l P k hP n [44] _ _ h
      obtain ⟨m1, _, _⟩ := take_ok z
      obtain ⟨p1, p2⟩ := hP _ z h1
      refine ⟨m1, (P (mark l s b)).1 :: r, by rw [h3, List.append_assoc]; rfl, by rw [List.length_cons, h4], fun x hx => ?_, ?_⟩
      · rcases List.mem_cons.1 hx with rfl | hx
        · exact p1
        · exact h5 x hx
      · rw [h6, p2, mark_parts, cnts]; omega
    · rw [if_neg z] at h
      exact absurd (argsL_right l P k hP n [44] _ _ h).1 z
theorem part_right (l : List Tk) (hN : NmT l) : ∀ (k : Nat) (s : St), s.wrong = 0 → (part l k s).2.wrong = 0 → Rx k (part l k s).1 ∧ (part l k s).2.parts = s.parts + cnt (part l k s).1
  | 0, s, hs, h => by
    exfalso
    have h : (name l (begun l true s)).2.wrong = 0 := h
    obtain ⟨k1, k2, _⟩ := take_ok (show (take l (begun l true s) _).2.wrong = 0 from h)
    unfold begun at k1
    dsimp only at k1
    rw [if_pos ⟨hs, k2, .inl rfl⟩] at k1
    exact absurd k1 (by decide)
  | k + 1, s, hs, h => by
    unfold part at h ⊢
    split at h
    · rename_i c
      rw [if_pos c]
      unfold operands at h ⊢
      dsimp only at h ⊢
      obtain ⟨m1, _, _⟩ := take_ok h
      obtain ⟨a1, r, a2, a3, a4, a5⟩ := argsL_right l (part l k) k (fun s q1 q2 => part_right l hN k s q1 q2) _ _ _ _ m1
      obtain ⟨_, _, r', b3, b4⟩ := numsL_len l _ _ _ _ a1
      have a2 : (opB l (part l k) (opN (name l (begun l false s)).1) (name l (begun l false s)).2).1 = [] ++ r := a2
      have b3 : (opA l (opN (name l (begun l false s)).1) (name l (begun l false s)).2).1 = [] ++ r' := b3
      have ho := c.2.1
      have ho2 := opN_lt (name l (begun l false s)).1
      rw [a2, b3, List.nil_append, List.nil_append]
      have et : ((opN (name l (begun l false s)).1 : Nat) : Int).toNat = opN (name l (begun l false s)).1 := Int.toNat_natCast _
      refine ⟨.inr ⟨by omega, by omega, rfl, by rw [et, b4], by rw [et, a3], a4⟩, ?_⟩
      rw [mark_parts, cnt]
      have a5 : (opB l (part l k) (opN (name l (begun l false s)).1) (name l (begun l false s)).2).2.2.parts = (opA l (opN (name l (begun l false s)).1) (name l (begun l false s)).2).2.2.parts + cnts r := a5
      have b5 : (opA l (opN (name l (begun l false s)).1) (name l (begun l false s)).2).2.2.parts = s.parts + 1 := by
        unfold opA
        rw [numsL_parts, name_parts]; rfl
      rw [a5, b5]; omega
    · rename_i c
      rw [if_neg c]
      have h : (name l (begun l false s)).2.wrong = 0 := h
      refine ⟨.inl ⟨rfl, name_R hN h, rfl, rfl⟩, ?_⟩
      show (name l (begun l false s)).2.parts = _
      rw [name_parts]
      show s.parts + 1 = s.parts + cnt (leaf _)
      rw [leaf, cnt, cnts]
/-- One end of a range. -/
theorem endE_right {l : List Tk} (hB : TkB l) (s : St) : ((endE l s).1.2 = false → (endE l s).1.1 = 0) ∧ (-9223372036854775808 ≤ (endE l s).1.1 ∧ (endE l s).1.1 ≤ 9223372036854775807) := by
  unfold endE
  split
  · exact ⟨fun _ => rfl, (show (-9223372036854775808 : Int) ≤ 0 by decide), (show (0 : Int) ≤ 9223372036854775807 by decide)⟩
  · exact ⟨fun e => (by cases e), number_B hB s⟩
def RgOk (r : Rg) : Prop := (r.hl = false → r.low = 0) ∧ (r.hh = false → r.high = 0) ∧ (-9223372036854775808 ≤ r.low ∧ r.low ≤ 9223372036854775807) ∧ (-9223372036854775808 ≤ r.high ∧ r.high ≤ 9223372036854775807)
theorem span_right {l : List Tk} (hB : TkB l) (s : St) : RgOk (span l s).1 :=
  ⟨(endE_right hB _).1, (endE_right hB _).1, (endE_right hB _).2, (endE_right hB _).2⟩
/-- What the steps of a shape read. -/
structure StR (c d : Cm × St) (sh : List UInt8) : Prop where
  nam : ∃ r : List (List UInt8), d.1.names = c.1.names ++ r ∧ r.length = cN sh ∧ ∀ x ∈ r, nameOk x = true
  num : ∃ r : List Int, d.1.nums = c.1.nums ++ r ∧ r.length = cI sh ∧ ∀ z ∈ r, -9223372036854775808 ≤ z ∧ z ≤ 9223372036854775807
  rg0 : ¬ 114 ∈ sh → d.1.rg = c.1.rg
  rg1 : RgOk c.1.rg → RgOk d.1.rg
  ex0 : ¬ 101 ∈ sh → d.1.ex = c.1.ex
  ex1 : 101 ∈ sh → Rx 40 d.1.ex ∧ cnt d.1.ex ≤ 2000
theorem steps_right {l : List Tk} (hN : NmT l) (hB : TkB l) : ∀ (sh : List UInt8) (c : Cm × St), Last sh → c.2.parts ≤ 2000 → (sh.foldl (stepC l) c).2.wrong = 0 → StR c (sh.foldl (stepC l) c) sh
  | [], c, _, _, h => ⟨⟨[], (List.append_nil _).symm, rfl, fun x hx => by cases hx⟩, ⟨[], (List.append_nil _).symm, rfl, fun x hx => by cases hx⟩, fun _ => rfl, id, fun _ => rfl, fun h => by cases h⟩
  | x :: r, c, hl, hp, h => by
    have h : (r.foldl (stepC l) (stepC l c x)).2.wrong = 0 := h
    have h1 := (steps_len r (stepC l c x) hl.2 h).1
    show StR c (r.foldl (stepC l) (stepC l c x)) (x :: r)
    rcases hl.1 with rfl | rfl | rfl | ⟨rfl | rfl, rfl⟩
    · -- a name
      have hw : (name l c.2).2.wrong = 0 := h1
      obtain ⟨⟨ra, n1, n2, n3⟩, ⟨rb, m1, m2, m3⟩, i1, i2, i3, i4⟩ := steps_right hN hB r (stepC l c 110) hl.2 (by show (name l c.2).2.parts ≤ 2000; rw [name_parts]; exact hp) h
      refine ⟨⟨(name l c.2).1 :: ra, by rw [n1]; show (c.1.names ++ [(name l c.2).1]) ++ ra = _; rw [List.append_assoc]; rfl, by rw [List.length_cons, n2, cN]; show cN r + 1 = 1 + cN r; omega, fun x hx => ?_⟩, ⟨rb, m1, by rw [m2, cI]; show _ = 0 + cI r; omega, m3⟩, fun q => i1 (fun z => q (List.mem_cons_of_mem _ z)), i2, fun q => i3 (fun z => q (List.mem_cons_of_mem _ z)), fun q => i4 ?_⟩
      · rcases List.mem_cons.1 hx with rfl | hx
        · exact name_R hN hw
        · exact n3 x hx
      · rcases List.mem_cons.1 q with z | z
        · exact absurd z (by decide)
        · exact z
    · -- a number
      obtain ⟨⟨ra, n1, n2, n3⟩, ⟨rb, m1, m2, m3⟩, i1, i2, i3, i4⟩ := steps_right hN hB r (stepC l c 105) hl.2 (by show (number l c.2).2.parts ≤ 2000; rw [number_parts]; exact hp) h
      refine ⟨⟨ra, n1, by rw [n2, cN]; show _ = 0 + cN r; omega, n3⟩, ⟨(number l c.2).1 :: rb, by rw [m1]; show (c.1.nums ++ [(number l c.2).1]) ++ rb = _; rw [List.append_assoc]; rfl, by rw [List.length_cons, m2, cI]; show cI r + 1 = 1 + cI r; omega, fun x hx => ?_⟩, fun q => i1 (fun z => q (List.mem_cons_of_mem _ z)), i2, fun q => i3 (fun z => q (List.mem_cons_of_mem _ z)), fun q => i4 ?_⟩
      · rcases List.mem_cons.1 hx with rfl | hx
        · exact number_B hB c.2
        · exact m3 x hx
      · rcases List.mem_cons.1 q with z | z
        · exact absurd z (by decide)
        · exact z
    · -- the mark =
      obtain ⟨⟨ra, n1, n2, n3⟩, ⟨rb, m1, m2, m3⟩, i1, i2, i3, i4⟩ := steps_right hN hB r (stepC l c 61) hl.2 (by show (mark l c.2 [61]).parts ≤ 2000; rw [mark_parts]; exact hp) h
      refine ⟨⟨ra, n1, by rw [n2, cN]; show _ = 0 + cN r; omega, n3⟩, ⟨rb, m1, by rw [m2, cI]; show _ = 0 + cI r; omega, m3⟩, fun q => i1 (fun z => q (List.mem_cons_of_mem _ z)), i2, fun q => i3 (fun z => q (List.mem_cons_of_mem _ z)), fun q => i4 ?_⟩
      rcases List.mem_cons.1 q with z | z
      · exact absurd z (by decide)
      · exact z
    · -- an expression, the last
      have hw : (part l 40 c.2).2.wrong = 0 := h1
      have hz : c.2.wrong = 0 := by
        by_cases z : c.2.wrong = 0
        · exact z
        · exact absurd (((part_on l 40 c.2).stay z).2.symm.trans hw) z
      obtain ⟨p1, p2⟩ := part_right l hN 40 c.2 hz hw
      have p3 := (part_PI l 40 c.2 hp).2 hw
      refine ⟨⟨[], (List.append_nil _).symm, rfl, fun x hx => by cases hx⟩, ⟨[], (List.append_nil _).symm, rfl, fun x hx => by cases hx⟩, fun _ => rfl, id, fun q => absurd List.mem_cons_self q, fun _ => ⟨p1, by show cnt (part l 40 c.2).1 ≤ 2000; omega⟩⟩
    · -- a range, the last
      refine ⟨⟨[], (List.append_nil _).symm, rfl, fun x hx => by cases hx⟩, ⟨[], (List.append_nil _).symm, rfl, fun x hx => by cases hx⟩, fun q => absurd List.mem_cons_self q, fun _ => span_right hB c.2, fun _ => rfl, fun q => ?_⟩
      exact absurd q (by decide)
end Lx
theorem ok_name {s : List UInt8} (h : Lx.nameOk s = true) : RName ⟨s.toArray⟩ := by
  have ⟨h1, h2, h3, h4⟩ := of_decide_eq_true h
  have hs : (⟨s.toArray⟩ : ByteArray).size = s.length := by rw [Lib.size_eq]
  have e : ∀ i (hi : i < (⟨s.toArray⟩ : ByteArray).size) (hj : i < s.length), (⟨s.toArray⟩ : ByteArray)[i] = s[i] := fun i hi hj => rfl
  refine ⟨by omega, by omega, ?_, fun i hi => ?_⟩
  · rw [e 0 (by omega) (by omega)]
    have := h3 s[0] (List.getElem?_eq_getElem (by omega))
    unfold Lx.dgt at this
    rw [decide_eq_false_iff_not] at this
    omega
  · rw [e i hi (by omega)]
    have hm : s[i] ∈ s.take (Lx.run Lx.ltr s) := by rw [h4, List.take_length]; exact List.getElem_mem _
    have := Lx.run_in Lx.ltr s _ hm
    unfold Lx.ltr at this
    rw [decide_eq_true_iff] at this
    unfold LetP
    omega
theorem rx_fit : ∀ (k : Nat) (x : Lx.Ex) (d : Int), Lx.Rx k x → ∀ y ∈ tour x d, y.2 + 1 ≤ d + k ∧ FitP y.1
  | 0, x, d, h, _, _ => h.elim
  | k + 1, .mk op nm nu xs, d, h, y, hy => by
    rw [tour] at hy
    rcases List.mem_cons.1 hy with rfl | hy
    · refine ⟨by dsimp only; omega, ?_⟩
      rcases h with ⟨rfl, h1, rfl, rfl⟩ | ⟨h1, h2, rfl, h3, h4, _⟩
      · exact ⟨(show (0 : Int) ≤ 12 by decide), rfl, rfl, by rw [if_pos rfl]; exact ok_name h1⟩
      · have ho : op.toNat < 13 := by omega
        refine ⟨h2, ?_, ?_, ?_⟩
        · rw [nuN_eq _ ho]; exact congrArg Int.ofNat h3
        · rw [arN_eq _ ho]; exact congrArg Int.ofNat h4
        · rw [if_neg (by dsimp only; omega)]
    · rcases h with ⟨_, _, _, rfl⟩ | ⟨_, _, _, _, _, h5⟩
      · rw [tours] at hy; cases hy
      · rw [tours_flat] at hy
        obtain ⟨l, hl, hy⟩ := List.mem_flatten.1 hy
        obtain ⟨G, hG, rfl⟩ := List.mem_map.1 hl
        obtain ⟨x, hx, rfl⟩ := List.mem_map.1 hG
        have := rx_fit k x (d + 1) (h5 x hx) y hy
        exact ⟨by omega, this.2⟩
theorem rx_right {x : Lx.Ex} (h : Lx.Rx 40 x) (hc : Lx.cnt x ≤ 2000) : RightL (tour x 1) :=
  ⟨by rw [cnt_len]; exact hc, fun y hy => ⟨by have := (rx_fit 40 x 1 h y hy).1; omega, (rx_fit 40 x 1 h y hy).2⟩⟩
/-- What came in. -/
structure CB (cm : Lx.Cm) : Prop where
  b1 : cm.word.length ≤ maxLen
  b2 : ∀ x ∈ cm.names, x.length ≤ maxLen
  b3 : ∀ z ∈ cm.nums, -9223372036854775808 ≤ z ∧ z ≤ 9223372036854775807
  b4 : (-9223372036854775808 ≤ cm.rg.low ∧ cm.rg.low ≤ 9223372036854775807) ∧ (-9223372036854775808 ≤ cm.rg.high ∧ cm.rg.high ≤ 9223372036854775807)
theorem nm_len {x : List UInt8} (h : Lx.nameOk x = true) : x.length ≤ maxLen := by
  have := (of_decide_eq_true h).2.1
  unfold maxLen; omega
/-- A command that was read is right. -/
theorem cm_right {l : List Lx.Tk} (hN : Lx.NmT l) (hB : Lx.TkB l) (h : (Lx.cmE l).2.2 = 0) : RightC (Lx.cmE l).1 ∧ CB (Lx.cmE l).1 := by
  unfold Lx.cmE at h ⊢
  split at h
  · exact absurd (show (110 : Int) = 0 from h) (by decide)
  · rename_i sh hsh
    split at h
    · exact absurd (show (110 : Int) = 0 from h) (by decide)
    · rename_i hw
      rw [if_neg hw]
      obtain ⟨c, hc⟩ : ∃ c : Lx.Cm × Lx.St, ((⟨(Lx.name l ⟨0, 0, 0⟩).1, [], [], ⟨0, 0, false, false⟩, Lx.leaf []⟩ : Lx.Cm), (Lx.name l ⟨0, 0, 0⟩).2) = c := ⟨_, rfl⟩
      rw [hc] at h ⊢
      obtain ⟨d, hd⟩ : ∃ d, sh.foldl (Lx.stepC l) c = d := ⟨_, rfl⟩
      have hsw := Lx.steps_word l sh c
      have hst := Lx.steps_right hN hB sh c (Lx.shape_last (Lx.shape_in hsh)) (by rw [← hc]; show (Lx.name l ⟨0, 0, 0⟩).2.parts ≤ 2000; rw [Lx.name_parts]; decide)
      rw [hd] at h hst hsw ⊢
      unfold Lx.told at h ⊢
      by_cases q : (Lx.failed l d.2).wrong = 0
      · rw [if_pos q]
        dsimp only
        have hz : d.2.wrong = 0 := by
          unfold Lx.failed at q
          split at q
          · exact absurd (show (110 : Int) = 0 from q) (by decide)
          · exact q
        obtain ⟨⟨ra, n1, n2, n3⟩, ⟨rb, m1, m2, m3⟩, i1, i2, i3, i4⟩ := hst hz
        have e0 : d.1.word = (Lx.name l ⟨0, 0, 0⟩).1 := by rw [hsw, ← hc]
        have n1 : d.1.names = ra := by rw [n1, ← hc]; rfl
        have m1 : d.1.nums = rb := by rw [m1, ← hc]; rfl
        have i1 : ¬ 114 ∈ sh → d.1.rg = ⟨0, 0, false, false⟩ := fun z => by rw [i1 z, ← hc]
        have i3 : ¬ 101 ∈ sh → d.1.ex = Lx.leaf [] := fun z => by rw [i3 z, ← hc]
        have i2 : Lx.RgOk d.1.rg := i2 (by rw [← hc]; exact ⟨fun _ => rfl, fun _ => rfl, (show (-9223372036854775808 : Int) ≤ 0 ∧ (0 : Int) ≤ 9223372036854775807 by decide), (show (-9223372036854775808 : Int) ≤ 0 ∧ (0 : Int) ≤ 9223372036854775807 by decide)⟩)
        have hs : Lx.shape d.1.word = some sh := by rw [e0]; exact hsh
        have hnw : (Lx.name l ⟨0, 0, 0⟩).2.wrong = 0 := by
          by_cases y : (Lx.name l ⟨0, 0, 0⟩).2.wrong = 0
          · exact y
          · exact absurd y hw
        refine ⟨⟨by rw [hs]; rfl, fun x hx => ?_, by rw [hs, n1]; exact n2, by rw [hs, m1]; exact m2, i2.1, i2.2.1, ?_, ?_, ?_⟩, ⟨?_, fun x hx => ?_, by rw [m1]; exact m3, i2.2.2⟩⟩
        · rw [n1] at hx; exact ok_name (n3 x hx)
        · rw [hs]; exact i1
        · rw [hs]; exact i3
        · rw [hs]; exact fun z => rx_right (i4 z).1 (i4 z).2
        · rw [e0]; exact nm_len (Lx.name_R hN hnw)
        · rw [n1] at hx; exact nm_len (n3 x hx)
      · rw [if_neg q] at h
        exact absurd h q
/-- What the words of a line are. -/
structure LnT (l : List Lx.Tk) : Prop where
  nm : Lx.NmT l
  tb : Lx.TkB l
theorem first_lnt {s : List UInt8} {t : Lx.Tk} {n : Nat} (h : Lx.first readOf piOf s = some (t, n)) : (t.1 = 1 → Lx.nameOk t.2.1 = true) ∧ (0 ≤ t.1 ∧ t.1 ≤ 255) ∧ t.2.1.length ≤ maxLen ∧ -9223372036854775808 ≤ t.2.2 ∧ t.2.2 ≤ 9223372036854775807 := by
  unfold Lx.first at h
  cases s with
  | nil => cases h
  | cons c r =>
    dsimp only at h
    split at h
    · cases h
      exact ⟨fun e => absurd (show (4 : Int) = 1 from e) (by decide), by dsimp only; omega, by simp; unfold maxLen; omega, by dsimp only; omega, by dsimp only; omega⟩
    · split at h
      · split at h
        · rename_i d hd
          cases h
          have hr2 := of_decide_eq_true (read_range hd)
          exact ⟨fun e => absurd e (by dsimp only; omega), by dsimp only; omega, by simp, by dsimp only; omega, by dsimp only; omega⟩
        · cases h
      · split at h
        · split at h
          · rename_i x hx
            cases h
            have hp := Lx.num_pos piOf pi_nil (show Lx.num piOf (c :: r) = some (x.1, x.2) from hx)
            have := pi_range hp.2.2
            exact ⟨fun e => absurd e (by dsimp only; omega), by dsimp only; omega, by simp, this.1, this.2⟩
          · cases h
        · split at h
          · rename_i hn
            cases h
            have hn2 := of_decide_eq_true hn
            exact ⟨fun _ => hn, by dsimp only; omega, by dsimp only; unfold maxLen; omega, by dsimp only; omega, by dsimp only; omega⟩
          · cases h
theorem words_lnt : ∀ (N : Nat) (s : List UInt8), s.length ≤ N → LnT (Lx.words readOf piOf s 0 []).1
  | N, [], _ => by rw [Lx.words_nil]; exact ⟨fun t ht => (by cases ht), fun t ht => (by cases ht)⟩
  | 0, c :: r, h => by simp at h
  | N + 1, c :: r, h => by
    have hr : r.length ≤ N := by simpa using h
    cases hb : Lx.blk c
    · cases hf : Lx.first readOf piOf (c :: r) with
      | none => rw [Lx.words_none readOf piOf hb hf]; exact ⟨fun t ht => (by cases ht), fun t ht => (by cases ht)⟩
      | some x =>
        obtain ⟨t, n⟩ := x
        rw [Lx.words_some readOf piOf hb hf, Lx.words_shift readOf piOf N _ (by rw [List.length_drop]; omega)]
        have ih := words_lnt N (r.drop (n - 1)) (by rw [List.length_drop]; omega)
        have hft := first_lnt hf
        split
        · refine ⟨fun u hu => ?_, fun u hu => ?_⟩
          · rcases List.mem_append.1 hu with hu | hu
            · simp at hu; rw [hu]; exact hft.1
            · exact ih.nm u hu
          · rcases List.mem_append.1 hu with hu | hu
            · simp at hu; rw [hu]; exact hft.2
            · exact ih.tb u hu
        · exact ⟨fun t ht => (by cases ht), fun t ht => (by cases ht)⟩
    · rw [Lx.words_blank readOf piOf hb, Lx.words_shift readOf piOf N r hr]
      have ih := words_lnt N r hr
      split
      · simp; exact ih
      · exact ⟨fun t ht => (by cases ht), fun t ht => (by cases ht)⟩
end Go.Proofs.YtimjendkpjojoaaGreatDoor
