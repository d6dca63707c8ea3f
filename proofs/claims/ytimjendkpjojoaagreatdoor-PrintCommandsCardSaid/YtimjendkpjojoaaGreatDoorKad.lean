/- W1, W2 in one. -/
import Derived.Test.YtimjendkpjojoaaGreatDoorKa
import Derived.Test.YtimjendkpjojoaaGreatDoorKq
import Derived.Test.YtimjendkpjojoaaGreatDoorKac
namespace Go.Proofs.YtimjendkpjojoaaGreatDoor
set_option linter.unusedVariables false
set_option linter.unusedSimpArgs false
open Go.ChangeShapes Go.WideShapes Go.ChangeAt Go.RowKit

namespace Lx
variable (rd pi : List UInt8 → Option Int)
/-- A byte that ends a word. -/
structure Brk (b : UInt8) : Prop where
  l : ltr b = false
  d : dgt b = false
  a : dlt b = false
theorem num_brk {s : List UInt8} (hs : s ≠ []) {b : UInt8} (hb : Brk b) (r : List UInt8) : num pi (s ++ b :: r) = num pi s := by
  have bl := body_len s
  have rl := run_le dgt (body s)
  unfold num
  dsimp only
  rw [body_app hs, run_app dgt b hb.d]
  have e1 : (s ++ b :: r).length - (body s ++ b :: r).length = s.length - (body s).length := by simp; omega
  rw [e1]
  generalize hn : s.length - (body s).length + run dgt (body s) = n
  have hnl : n ≤ s.length := by omega
  rw [List.take_append_of_le_length hnl]
  cases pi (s.take n) with
  | none => rfl
  | some v =>
    dsimp only
    have a1 : ((body s ++ b :: r)[0]? = some 48 ∧ 1 < n) ↔ ((body s)[0]? = some 48 ∧ 1 < n) := by
      cases hd : body s with
      | nil =>
        simp
        intro z
        subst z
        have := hb.d
        exact absurd this (by decide)
      | cons x y => simp
    have a2 : (∃ c, (s ++ b :: r)[n]? = some c ∧ ltr c = true) ↔ (∃ c, s[n]? = some c ∧ ltr c = true) := by
      constructor
      · rintro ⟨c, h1, h2⟩
        by_cases z : n < s.length
        · rw [List.getElem?_append_left z] at h1; exact ⟨c, h1, h2⟩
        · have z2 : n = s.length := by omega
          rw [z2, List.getElem?_append_right (Nat.le_refl _)] at h1
          simp at h1
          subst h1
          rw [hb.l] at h2; cases h2
      · rintro ⟨c, h1, h2⟩
        have z : n < s.length := (List.getElem?_eq_some_iff.1 h1).1
        exact ⟨c, by rw [List.getElem?_append_left z]; exact h1, h2⟩
    by_cases hc : ((body s)[0]? = some 48 ∧ 1 < n) ∨ (∃ c, s[n]? = some c ∧ ltr c = true)
    · rw [if_pos hc, if_pos (hc.imp a1.2 a2.2)]
    · rw [if_neg hc, if_neg (fun h => hc (h.imp a1.1 a2.1))]
theorem first_brk {s : List UInt8} (hs : s ≠ []) {b : UInt8} (hb : Brk b) (r : List UInt8) : first rd pi (s ++ b :: r) = first rd pi s := by
  cases s with
  | nil => exact absurd rfl hs
  | cons c q =>
    rw [List.cons_append]
    unfold first
    dsimp only
    rw [run_app dlt b hb.a, show c :: (q ++ b :: r) = (c :: q) ++ b :: r from rfl, num_brk pi (by simp) hb, run_app ltr b hb.l]
    rw [List.take_append_of_le_length (run_le dlt q), List.take_append_of_le_length (run_le ltr (c :: q))]
/-- What may follow a word. -/
def Ends (q : List UInt8) : Prop := q = [] ∨ ∃ b r, q = b :: r ∧ Brk b
/-- A text that reads as these words, whatever ends it. -/
def Rds (s : List UInt8) (ts : List Tk) : Prop := ∀ q k acc, Ends q → words rd pi (s ++ q) k acc = words rd pi q (k + s.length) (acc ++ ts)
variable {rd pi}
theorem rds_one {s : List UInt8} {t : Tk} (h : One rd pi s t) : Rds rd pi s [t] := by
  intro q k acc hq
  have hf : first rd pi (s ++ q) = some (t, s.length) := by
    rcases hq with rfl | ⟨b, r, rfl, hb⟩
    · rw [List.append_nil]; exact h.first
    · rw [first_brk rd pi (by obtain ⟨c, r, rfl, _⟩ := h.head; simp) hb]; exact h.first
  obtain ⟨c, r, rfl, hc⟩ := h.head
  rw [List.cons_append] at hf ⊢
  rw [words_some rd pi hc hf]
  have e : (r ++ q).drop ((c :: r).length - 1) = q := by
    rw [show (c :: r).length - 1 = r.length by simp]
    exact List.drop_left
  rw [e]
theorem mark_not {c : UInt8} (h : mrk c = true) : blk c = false ∧ Brk c := by
  have := of_decide_eq_true h
  refine ⟨?_, ?_, ?_, ?_⟩
  · unfold blk; simp; omega
  · unfold ltr; simp; omega
  · unfold dgt; simp; omega
  · unfold dlt ltr; simp; omega
theorem words_mark {c : UInt8} (h : mrk c = true) (q : List UInt8) (k : Nat) (acc : List Tk) : words rd pi (c :: q) k acc = words rd pi q (k + 1) (acc ++ [(4, [c], 0)]) := by
  have hf : first rd pi (c :: q) = some ((4, [c], 0), 1) := by unfold first; dsimp only; rw [if_pos h]
  rw [words_some rd pi (mark_not h).1 hf]
  rfl
theorem words_sp (q : List UInt8) (k : Nat) (acc : List Tk) : words rd pi (32 :: q) k acc = words rd pi q (k + 1) acc := words_blank rd pi (by decide) q k acc
theorem ends_mark {c : UInt8} (h : mrk c = true) (q : List UInt8) : Ends (c :: q) := .inr ⟨c, q, rfl, (mark_not h).2⟩
theorem ends_sp (q : List UInt8) : Ends (32 :: q) := .inr ⟨32, q, rfl, by decide, by decide, by decide⟩
/-- Operands behind the first. -/
def tailB (l : List (List UInt8 × List Tk)) : List UInt8 := (l.map (fun j => ([44, 32] : List UInt8) ++ j.1)).flatten
def tailW (l : List (List UInt8 × List Tk)) : List Tk := (l.map (fun j => ((4, [44], 0) : Tk) :: j.2)).flatten
theorem ends_tail : ∀ (l : List (List UInt8 × List Tk)) {q : List UInt8}, Ends q → Ends (tailB l ++ q)
  | [], q, h => h
  | j :: r, q, h => ends_mark (c := 44) (by decide) _
theorem rds_tail : ∀ (l : List (List UInt8 × List Tk)), (∀ j ∈ l, Rds rd pi j.1 j.2) → Rds rd pi (tailB l) (tailW l)
  | [], _ => fun q k acc _ => by simp [tailB, tailW]
  | j :: r, h => fun q k acc hq => by
    have e1 : tailB (j :: r) ++ q = 44 :: 32 :: (j.1 ++ (tailB r ++ q)) := by simp [tailB]
    have e2 : tailW (j :: r) = (4, [44], 0) :: (j.2 ++ tailW r) := by simp [tailW]
    have e3 : (tailB (j :: r)).length = 2 + j.1.length + (tailB r).length := by simp [tailB]; omega
    rw [e1, e2, e3, words_mark (by decide), words_sp, h j List.mem_cons_self _ _ _ (ends_tail r hq), rds_tail r (fun x hx => h x (List.mem_cons_of_mem _ hx)) _ _ _ hq]
    rw [show k + 1 + 1 + j.1.length + (tailB r).length = k + (2 + j.1.length + (tailB r).length) by omega]
    simp
def joinW : List (List UInt8 × List Tk) → List Tk
  | [] => []
  | i :: r => (4, [40], 0) :: (i.2 ++ tailW r)
theorem lnL_tail (i : List UInt8 × List Tk) (r : List (List UInt8 × List Tk)) : lnL ((i :: r).map (fun j => j.1)) = 40 :: (i.1 ++ tailB r) := by
  simp [lnL, tailB, Function.comp_def]

theorem nW_tail : ∀ (nu : List Int), nW [44] nu = tailW (nu.map (fun z => (Lib.itoa z, [((2, [], z) : Tk)])))
  | [] => rfl
  | z :: r => by rw [nW, nW_tail r]; simp [tailW]
theorem aW_tail : ∀ (xs : List Ex), aW [44] xs = tailW (xs.map (fun x => (lineX x, wordsX x)))
  | [] => by rw [aW]; rfl
  | x :: r => by rw [aW, aW_tail r]; simp [tailW]
theorem tailW_app (a b : List (List UInt8 × List Tk)) : tailW (a ++ b) = tailW a ++ tailW b := by simp [tailW]
/-- The operands of an expression, their texts and words. -/
def itemsP (nu : List Int) (xs : List Ex) : List (List UInt8 × List Tk) := nu.map (fun z => (Lib.itoa z, [((2, [], z) : Tk)])) ++ xs.map (fun x => (lineX x, wordsX x))
theorem items_joinW (nu : List Int) (xs : List Ex) : nW [40] nu ++ aW (sepN [40] nu) xs = joinW (itemsP nu xs) := by
  unfold itemsP
  cases nu with
  | nil =>
    show [] ++ aW [40] xs = _
    cases xs with
    | nil => rw [aW]; rfl
    | cons x r => rw [aW, aW_tail r]; simp [joinW]
  | cons z n =>
    rw [nW, nW_tail n, show sepN [40] (z :: n) = [44] from rfl, aW_tail xs]
    simp only [List.map_cons, List.cons_append, joinW, tailW_app]
    simp
theorem items_lnL (nu : List Int) (xs : List Ex) : itemsL nu xs = (itemsP nu xs).map (fun j => j.1) := by
  unfold itemsL itemsP
  simp [List.map_map, Function.comp_def]
theorem op_name (o : Nat) (h1 : 1 ≤ o) (h2 : o ≤ 12) : nameOk (opW.getD (o - 1) []) = true := by
  have : o = 1 ∨ o = 2 ∨ o = 3 ∨ o = 4 ∨ o = 5 ∨ o = 6 ∨ o = 7 ∨ o = 8 ∨ o = 9 ∨ o = 10 ∨ o = 11 ∨ o = 12 := by omega
  have all : ∀ s ∈ opW, nameOk s = true := by
    intro s hs
    unfold nameOk
    rw [decide_eq_true_iff]
    revert s
    decide
  refine all _ ?_
  rcases this with rfl | rfl | rfl | rfl | rfl | rfl | rfl | rfl | rfl | rfl | rfl | rfl <;> decide
end Lx
/-- What a part's name and numbers are, when it is right. -/
def NmB (p : Pt) : Prop := (p.op = 0 → Lx.nameOk p.nm.data.toList = true) ∧ ∀ z ∈ p.nums, -9223372036854775808 ≤ z ∧ z ≤ 9223372036854775807
namespace Lx
variable {rd pi : List UInt8 → Option Int}
theorem rds_line (hN : ∀ s, nameOk s = true → One rd pi s (1, s, 0)) (hI : ∀ z : Int, -9223372036854775808 ≤ z → z ≤ 9223372036854775807 → One rd pi (Lib.itoa z) (2, [], z)) : ∀ (k : Nat) (x : Ex) (d : Int), Ok k x → (∀ y ∈ tour x d, NmB y.1) → Rds rd pi (lineX x) (wordsX x)
  | 0, _, _, h, _ => h.elim
  | k + 1, .mk op nm nu xs, d, ho, hb => by
    have hb0 := hb _ (by rw [tour]; exact List.mem_cons_self)
    rcases ho with ⟨rfl, rfl, rfl⟩ | ⟨h1, h2, rfl, h3, h4, h5⟩
    · have e : wordsX (.mk 0 nm [] []) = [(1, nm, 0)] := by rw [wordsX, if_pos rfl]
      rw [line_leaf, e]
      exact rds_one (hN nm (hb0.1 rfl))
    · have hz : ¬ op = 0 := by omega
      have hax := ar_pos op.toNat (by omega) (by omega)
      have ha : ∀ j ∈ itemsP nu xs, Rds rd pi j.1 j.2 := by
        intro j hj
        unfold itemsP at hj
        rcases List.mem_append.1 hj with h | h
        · obtain ⟨z, hz, rfl⟩ := List.mem_map.1 h
          exact rds_one (hI z (hb0.2 z hz).1 (hb0.2 z hz).2)
        · obtain ⟨x, hx, rfl⟩ := List.mem_map.1 h
          exact rds_line hN hI k x (d + 1) (h5 x hx) (fun y hy => hb y (by rw [tour]; exact List.mem_cons_of_mem _ (tours_mem hx (d + 1) hy)))
      have ew : wordsX (.mk op [] nu xs) = (1, opW.getD (op.toNat - 1) [], 0) :: (joinW (itemsP nu xs) ++ [(4, [41], 0)]) := by
        rw [wordsX, if_neg hz, ← List.append_assoc, items_joinW]
      have el := line_op hz [] nu xs
      rw [List.take_length, items_lnL] at el
      have hne : itemsP nu xs ≠ [] := by
        intro e
        have := congrArg List.length e
        simp [itemsP] at this
        rw [this.2] at h4
        simp at h4
        omega
      rw [ew, el]
      obtain ⟨i, r, hi⟩ := List.exists_cons_of_ne_nil hne
      rw [hi] at ha ⊢
      rw [lnL_tail]
      have ho := hN _ (op_name op.toNat (by omega) (by omega))
      generalize opW.getD (op.toNat - 1) [] = o at ho ⊢
      intro q k' acc hq
      have e1 : o ++ 40 :: (i.1 ++ tailB r) ++ [41] ++ q = o ++ (40 :: (i.1 ++ (tailB r ++ (41 :: q)))) := by simp
      rw [e1, rds_one ho _ _ _ (ends_mark (c := 40) (by decide) _), words_mark (c := 40) (by decide), ha i List.mem_cons_self _ _ _ (ends_tail r (ends_mark (c := 41) (by decide) q)), rds_tail r (fun x hx => ha x (List.mem_cons_of_mem _ hx)) _ _ _ (ends_mark (c := 41) (by decide) q), words_mark (c := 41) (by decide)]
      have e2 : k' + o.length + 1 + i.1.length + (tailB r).length + 1 = k' + (o ++ 40 :: (i.1 ++ tailB r) ++ [41]).length := by
        simp only [List.length_append, List.length_cons, List.length_nil]; omega
      rw [e2]
      simp [joinW]
theorem rds_mark {c : UInt8} (h : mrk c = true) : Rds rd pi [c] [(4, [c], 0)] := fun q k acc _ => by
  rw [show [c] ++ q = c :: q from rfl, words_mark h]; rfl
theorem rds_rg (hI : ∀ z : Int, -9223372036854775808 ≤ z → z ≤ 9223372036854775807 → One rd pi (Lib.itoa z) (2, [], z)) (r : Rg) (hr : (-9223372036854775808 ≤ r.low ∧ r.low ≤ 9223372036854775807) ∧ (-9223372036854775808 ≤ r.high ∧ r.high ≤ 9223372036854775807)) : Rds rd pi (rgL r) (rgW r) := by
  obtain ⟨lo, hi, hl, hh⟩ := r
  intro q k acc hq
  have a := rds_one (hI lo hr.1.1 hr.1.2)
  have b := rds_one (hI hi hr.2.1 hr.2.2)
  unfold rgL rgW
  dsimp only
  generalize Lib.itoa lo = A at a
  generalize Lib.itoa hi = B at b
  have e93 : Ends (93 :: q) := ends_mark (c := 93) (by decide) q
  cases hl
  · cases hh
    · simp only [Bool.false_eq_true, if_false]
      show words rd pi (91 :: 58 :: 93 :: q) k acc = _
      rw [words_mark (c := 91) (by decide), words_mark (c := 58) (by decide), words_mark (c := 93) (by decide)]
      simp
    · simp only [Bool.false_eq_true, if_false, if_true]
      rw [show [91] ++ [] ++ [58] ++ B ++ [93] ++ q = (91 :: 58 :: (B ++ 93 :: q) : List UInt8) by simp]
      rw [words_mark (c := 91) (by decide), words_mark (c := 58) (by decide), b _ _ _ e93, words_mark (c := 93) (by decide)]
      simp [Nat.add_assoc, Nat.add_comm, Nat.add_left_comm]
  · cases hh
    · simp only [Bool.false_eq_true, if_false, if_true]
      rw [show [91] ++ A ++ [58] ++ [] ++ [93] ++ q = (91 :: (A ++ 58 :: 93 :: q) : List UInt8) by simp]
      rw [words_mark (c := 91) (by decide), a _ _ _ (ends_mark (c := 58) (by decide) _), words_mark (c := 58) (by decide), words_mark (c := 93) (by decide)]
      simp [Nat.add_assoc, Nat.add_comm, Nat.add_left_comm]
    · simp only [if_true]
      rw [show [91] ++ A ++ [58] ++ B ++ [93] ++ q = (91 :: (A ++ 58 :: (B ++ 93 :: q)) : List UInt8) by simp]
      rw [words_mark (c := 91) (by decide), a _ _ _ (ends_mark (c := 58) (by decide) _), words_mark (c := 58) (by decide), b _ _ _ e93, words_mark (c := 93) (by decide)]
      simp [Nat.add_assoc, Nat.add_comm, Nat.add_left_comm]
/-- What a command has so that its line may be read back. -/
structure CmB (c : Cm) (sh : List UInt8) : Prop where
  nm : ∀ x ∈ c.names, nameOk x = true
  nu : ∀ z ∈ c.nums, -9223372036854775808 ≤ z ∧ z ≤ 9223372036854775807
  rg : (-9223372036854775808 ≤ c.rg.low ∧ c.rg.low ≤ 9223372036854775807) ∧ (-9223372036854775808 ≤ c.rg.high ∧ c.rg.high ≤ 9223372036854775807)
  le : ∀ x ∈ sh, x = 110 ∨ x = 105 ∨ x = 101 ∨ x = 61 ∨ x = 114
theorem ends_sh (c : Cm) (sh : List UInt8) (a b : Nat) {q : List UInt8} (hq : Ends q) : Ends (shL c sh a b ++ q) := by
  cases sh with
  | nil => exact hq
  | cons x r => exact ends_sp _
theorem rds_sh (hN : ∀ s, nameOk s = true → One rd pi s (1, s, 0)) (hI : ∀ z : Int, -9223372036854775808 ≤ z → z ≤ 9223372036854775807 → One rd pi (Lib.itoa z) (2, [], z)) (c : Cm) : ∀ (sh : List UInt8) (a b : Nat), CmB c sh → a + cN sh ≤ c.names.length → b + cI sh ≤ c.nums.length → (101 ∈ sh → Rds rd pi (lineX c.ex) (wordsX c.ex)) → Rds rd pi (shL c sh a b) (shW c sh a b)
  | [], a, b, _, _, _, _ => fun q k acc _ => by rw [shL, shW]; simp
  | x :: r, a, b, h, hn, hm, hx => by
    have hl : Rds rd pi (letL c x a b) (letW c x a b) := by
      rcases h.le x List.mem_cons_self with rfl | rfl | rfl | rfl | rfl
      · have ha : a < c.names.length := by rw [cN] at hn; have : upN 110 = 1 := rfl; omega
        have e1 : letL c 110 a b = c.names[a] := by show c.names.getD a [] = _; rw [List.getD_eq_getElem?_getD, List.getElem?_eq_getElem ha]; rfl
        have e2 : letW c 110 a b = [(1, c.names[a], 0)] := by show [(1, c.names.getD a [], 0)] = _; rw [List.getD_eq_getElem?_getD, List.getElem?_eq_getElem ha]; rfl
        rw [e1, e2]
        exact rds_one (hN _ (h.nm _ (List.getElem_mem ha)))
      · have hb : b < c.nums.length := by rw [cI] at hm; have : upI 105 = 1 := rfl; omega
        have e1 : letL c 105 a b = Lib.itoa c.nums[b] := by show Lib.itoa (c.nums.getD b 0) = _; rw [List.getD_eq_getElem?_getD, List.getElem?_eq_getElem hb]; rfl
        have e2 : letW c 105 a b = [(2, [], c.nums[b])] := by show [(2, [], c.nums.getD b 0)] = _; rw [List.getD_eq_getElem?_getD, List.getElem?_eq_getElem hb]; rfl
        rw [e1, e2]
        have := h.nu _ (List.getElem_mem hb)
        exact rds_one (hI _ this.1 this.2)
      · exact hx List.mem_cons_self
      · exact rds_mark (c := 61) (by decide)
      · exact rds_rg hI c.rg h.rg
    have ih := rds_sh hN hI c r (a + upN x) (b + upI x) ⟨h.nm, h.nu, h.rg, fun y hy => h.le y (List.mem_cons_of_mem _ hy)⟩ (by rw [cN] at hn; omega) (by rw [cI] at hm; omega) (fun q => hx (List.mem_cons_of_mem _ q))
    intro q k acc hq
    rw [shL, shW]
    rw [show [32] ++ letL c x a b ++ shL c r (a + upN x) (b + upI x) ++ q = 32 :: (letL c x a b ++ (shL c r (a + upN x) (b + upI x) ++ q)) by simp]
    rw [words_sp, hl _ _ _ (ends_sh c r _ _ hq), ih _ _ _ hq]
    have e : k + 1 + (letL c x a b).length + (shL c r (a + upN x) (b + upI x)).length = k + ([32] ++ letL c x a b ++ shL c r (a + upN x) (b + upI x)).length := by
      simp only [List.length_append, List.length_cons, List.length_nil]; omega
    rw [e, List.append_assoc acc]
/-- The words of a command's line. -/
theorem words_lineC (hN : ∀ s, nameOk s = true → One rd pi s (1, s, 0)) (hI : ∀ z : Int, -9223372036854775808 ≤ z → z ≤ 9223372036854775807 → One rd pi (Lib.itoa z) (2, [], z)) (c : Cm) (sh : List UInt8) (hw : nameOk c.word = true) (h : CmB c sh) (hn : cN sh ≤ c.names.length) (hm : cI sh ≤ c.nums.length) (hx : 101 ∈ sh → Rds rd pi (lineX c.ex) (wordsX c.ex)) : words rd pi (lineC c sh) 0 [] = (toldC c sh, -1) := by
  have a := rds_one (hN _ hw) (shL c sh 0 0 ++ []) 0 [] (ends_sh c sh 0 0 (.inl rfl))
  have b := rds_sh hN hI c sh 0 0 h (by omega) (by omega) hx [] (0 + c.word.length) ([] ++ [(1, c.word, 0)]) (.inl rfl)
  unfold lineC
  rw [List.append_nil] at a b
  rw [a, b, words_nil]
  rfl
/-- The words of an expression's line. -/
theorem words_lineX (hN : ∀ s, nameOk s = true → One rd pi s (1, s, 0)) (hI : ∀ z : Int, -9223372036854775808 ≤ z → z ≤ 9223372036854775807 → One rd pi (Lib.itoa z) (2, [], z)) (k : Nat) (x : Ex) (d : Int) (ho : Ok k x) (hb : ∀ y ∈ tour x d, NmB y.1) : words rd pi (lineX x) 0 [] = (wordsX x, -1) := by
  have a := rds_line hN hI k x d ho hb [] 0 [] (.inl rfl)
  rw [List.append_nil] at a
  rw [a, words_nil]
  rfl
end Lx
theorem shape_name {w sh : List UInt8} (h : Lx.shape w = some sh) : Lx.nameOk w = true := by
  have go : ∀ (L : List (List UInt8 × List UInt8)), Lx.shGo L w = some sh → ∃ p ∈ L, p.1 = w := by
    intro L
    induction L with
    | nil => intro h; cases h
    | cons a r ih =>
      intro h
      unfold Lx.shGo at h
      split at h
      · rename_i e; exact ⟨a, List.mem_cons_self, e.symm⟩
      · obtain ⟨p, hp, e⟩ := ih h; exact ⟨p, List.mem_cons_of_mem _ hp, e⟩
  obtain ⟨p, hp, rfl⟩ := go _ h
  have all : ∀ p ∈ Lx.shapes, Lx.nameOk p.1 = true := by
    intro s hs
    unfold Lx.nameOk
    rw [decide_eq_true_iff]
    revert s
    decide
  exact all p hp
theorem name_ok {s : ByteArray} (h : RName s) : Lx.nameOk s.data.toList = true := by
  have hl : s.data.toList.length = s.size := by rw [Lib.size_eq]
  have e : ∀ i (hi : i < s.size) (hj : i < s.data.toList.length), s.data.toList[i] = s[i] := fun i hi hj => rfl
  refine decide_eq_true ⟨by have := h.lo; omega, by have := h.hi; omega, fun c hc => ?_, ?_⟩
  · obtain ⟨h0, hc⟩ := List.getElem?_eq_some_iff.1 hc
    rw [e 0 h.lo] at hc
    have := h.first
    rw [hc] at this
    unfold Lx.dgt
    rw [decide_eq_false_iff_not]
    omega
  · refine Lx.run_all _ _ (fun c hc => ?_)
    obtain ⟨i, hi, rfl⟩ := List.getElem_of_mem hc
    have := h.all i (by omega)
    rw [e i (by omega)]
    unfold Lx.ltr
    rw [decide_eq_true_iff]
    unfold LetP at this
    omega
theorem right_nm {x : Lx.Ex} {w : World} {n : Nat} {v : Value} (hE : ExAt w n v (tour x)) (h : RightL (tour x 1)) : ∀ y ∈ tour x 1, NmB y.1 := by
  intro y hy
  have f := (h.2 y hy).2
  refine ⟨fun e => ?_, (ex_fine hE 1 y hy).2.2⟩
  have := f.name
  rw [if_pos e] at this
  exact name_ok this
/-- A right command's line reads as its words. -/
theorem line_words {rd pi : List UInt8 → Option Int} (hN : ∀ s, Lx.nameOk s = true → Lx.One rd pi s (1, s, 0)) (hI : ∀ z : Int, -9223372036854775808 ≤ z → z ≤ 9223372036854775807 → Lx.One rd pi (Lib.itoa z) (2, [], z)) {cm : Lx.Cm} {w : World} {D : Nat} {g : Cg} (hg : CG w D cm g) (h : RightC cm) (hm : ∀ z ∈ cm.nums, -9223372036854775808 ≤ z ∧ z ≤ 9223372036854775807) (hr : (-9223372036854775808 ≤ cm.rg.low ∧ cm.rg.low ≤ 9223372036854775807) ∧ (-9223372036854775808 ≤ cm.rg.high ∧ cm.rg.high ≤ 9223372036854775807)) : Lx.words rd pi (Lx.lineC cm ((Lx.shape cm.word).getD [])) 0 [] = (Lx.toldC cm ((Lx.shape cm.word).getD []), -1) := by
  obtain ⟨sh, hs⟩ := Option.isSome_iff_exists.1 h.ok
  have h1 := h.nn
  have h2 := h.mm
  have h3 := h.ex1
  rw [hs] at h1 h2 h3 ⊢
  refine Lx.words_lineC hN hI cm sh (shape_name hs) ⟨fun x hx => ?_, hm, hr, (Lx.shape_let (Lx.shape_in hs)).2⟩ (by have : cm.names.length = Lx.cN sh := h1; omega) (by have : cm.nums.length = Lx.cI sh := h2; omega) (fun q => ?_)
  · have := name_ok (h.nam x hx)
    exact this
  · have hx := h3 q
    have hO := right_ok hx (ex_fine hg.ex 1)
    exact Lx.rds_line hN hI 40 cm.ex 1 hO.1 (right_nm hg.ex hx)
/-- A right expression's line reads as its words. -/
theorem ex_words {rd pi : List UInt8 → Option Int} (hN : ∀ s, Lx.nameOk s = true → Lx.One rd pi s (1, s, 0)) (hI : ∀ z : Int, -9223372036854775808 ≤ z → z ≤ 9223372036854775807 → Lx.One rd pi (Lib.itoa z) (2, [], z)) {x : Lx.Ex} {w : World} {n : Nat} {v : Value} (hE : ExAt w n v (tour x)) (h : RightL (tour x 1)) : Lx.words rd pi (Lx.lineX x) 0 [] = (Lx.wordsX x, -1) :=
  Lx.words_lineX hN hI 40 x 1 (right_ok h (ex_fine hE 1)).1 (right_nm hE h)
theorem pum_app (M : Nat) : ∀ (l r : List UInt8) (acc v : Nat), Lib.parseUintM M acc l = .ok v → Lib.parseUintM M acc (l ++ r) = Lib.parseUintM M v r
  | [], r, acc, v, h => by
    unfold Lib.parseUintM at h
    injection h with h
    subst h; rfl
  | c :: l, r, acc, v, h => by
    rw [List.cons_append]
    rw [Lib.parseUintM] at h ⊢
    split at h
    · rename_i h1
      rw [if_pos h1]
      split at h
      · cases h
      · rename_i h2
        rw [if_neg h2]
        split at h
        · cases h
        · rename_i h3
          rw [if_neg h3]
          exact pum_app M l r _ v h
    · cases h
theorem pum_dec : ∀ (k u : Nat), u ≤ k → u ≤ 18446744073709551615 → Lib.parseUintM 18446744073709551615 0 (Lib.decDigits u) = .ok u
  | k, u, hk, h => by
    rw [Lib.decDigits]
    split
    · rename_i h1
      rw [Lib.parseUintM]
      have e : (UInt8.ofNat (48 + u)).toNat = 48 + u := by simp; omega
      rw [e, if_pos (by omega), if_neg (by omega), if_neg (by omega), Lib.parseUintM]
      congr 1; omega
    · rename_i h1
      match k, hk with
      | k + 1, hk =>
        rw [pum_app _ _ _ _ _ (pum_dec k (u / 10) (by omega) (by omega)), Lib.parseUintM]
        have e : (UInt8.ofNat (48 + u % 10)).toNat = 48 + u % 10 := by simp; omega
        rw [e, if_pos (by omega), if_neg (by omega), if_neg (by omega), Lib.parseUintM]
        congr 1; omega
      | 0, hk => omega
theorem dec_dgt : ∀ (k u : Nat), u ≤ k → ∀ c ∈ Lib.decDigits u, Lx.dgt c = true
  | k, u, hk, c, hc => by
    rw [Lib.decDigits] at hc
    have one : ∀ d, d < 10 → Lx.dgt (UInt8.ofNat (48 + d)) = true := fun d hd => by
      unfold Lx.dgt
      have e : (UInt8.ofNat (48 + d)).toNat = 48 + d := by simp; omega
      rw [e]; simp; omega
    split at hc
    · rw [List.mem_singleton.1 hc]; exact one u (by omega)
    · rcases List.mem_append.1 hc with h | h
      · match k, hk with
        | k + 1, hk => exact dec_dgt k (u / 10) (by omega) c h
        | 0, hk => omega
      · rw [List.mem_singleton.1 h]; exact one (u % 10) (by omega)
theorem dec_head : ∀ (k u : Nat), u ≤ k → ∃ c r, Lib.decDigits u = c :: r ∧ (c = 48 → u = 0)
  | k, u, hk => by
    rw [Lib.decDigits]
    split
    · refine ⟨_, [], rfl, fun h => ?_⟩
      have := congrArg UInt8.toNat h
      have e : (UInt8.ofNat (48 + u)).toNat = 48 + u := by simp; omega
      rw [e] at this
      have : 48 + u = 48 := this
      omega
    · match k, hk with
      | k + 1, hk =>
        obtain ⟨c, r, e, h⟩ := dec_head k (u / 10) (by omega)
        exact ⟨c, r ++ _, by rw [e]; rfl, fun z => by have := h z; omega⟩
      | 0, hk => omega
theorem dec_zero : Lib.decDigits 0 = [48] := by rw [Lib.decDigits, dif_pos (by omega)]; rfl
theorem pb_itoa (n : Int) (h0 : -9223372036854775808 ≤ n) (h1 : n ≤ 9223372036854775807) : Lib.parseIntB 64 (Lib.itoa n) = .ok n := by
  unfold Lib.itoa
  split
  · obtain ⟨c, r, e, _⟩ := dec_head n.natAbs n.natAbs (Nat.le_refl _)
    have hp := pum_dec n.natAbs n.natAbs (Nat.le_refl _) (by omega)
    unfold Lib.parseIntB
    dsimp only
    rw [if_pos (.inr rfl)]
    unfold Lib.parseUintB
    rw [if_neg (by rw [e]; simp), show (2 ^ 64 - 1 : Nat) = 18446744073709551615 from rfl, hp]
    dsimp only
    rw [if_neg (by intro h; exact h.1 rfl), if_neg (by intro h; have := h.2; omega), if_pos (show UInt8.toNat 45 = 45 from rfl)]
    congr 1; omega
  · obtain ⟨c, r, e, _⟩ := dec_head n.toNat n.toNat (Nat.le_refl _)
    have hp := pum_dec n.toNat n.toNat (Nat.le_refl _) (by omega)
    have hd := dec_dgt n.toNat n.toNat (Nat.le_refl _) c (by rw [e]; simp)
    have hd := of_decide_eq_true hd
    unfold Lib.parseIntB
    rw [e]
    dsimp only
    rw [if_neg (by omega), ← e]
    unfold Lib.parseUintB
    rw [if_neg (by rw [e]; simp), show (2 ^ 64 - 1 : Nat) = 18446744073709551615 from rfl, hp]
    dsimp only
    rw [if_neg (by intro h; have := h.2; omega), if_neg (by intro h; omega), if_neg (by omega)]
    congr 1; omega
theorem pi_itoa (n : Int) (h0 : -9223372036854775808 ≤ n) (h1 : n ≤ 9223372036854775807) : piOf (Lib.itoa n) = some n := by
  unfold piOf
  rw [pb_itoa n h0 h1]
theorem one_name (a2 : List UInt8) (hn : Lx.nameOk a2 = true) : Lx.One readOf piOf a2 (1, a2, 0) := by
  have hn2 := of_decide_eq_true hn
  cases a2 with
  | nil => simp at hn2
  | cons c r =>
    have hc : Lx.ltr c = true := Lx.run_in Lx.ltr (c :: r) c (by rw [hn2.2.2.2, List.take_of_length_le (Nat.le_refl _)]; simp)
    have hd : Lx.dgt c = false := hn2.2.2.1 c rfl
    have hc := of_decide_eq_true hc
    have hd := of_decide_eq_false hd
    have hm : Lx.mrk c = false := by unfold Lx.mrk; rw [decide_eq_false_iff_not]; omega
    have n64 : ¬ c = 64 := fun z => by rw [z] at hc; revert hc; decide
    have n45 : ¬ (c = 45 ∨ Lx.dgt c = true) := by
      rintro (z | z)
      · rw [z] at hc; revert hc; decide
      · have := of_decide_eq_true z; omega
    refine ⟨?_, c, r, rfl, by unfold Lx.blk; rw [decide_eq_false_iff_not]; omega⟩
    unfold Lx.first
    dsimp only
    rw [hm, if_neg (by decide), if_neg n64, if_neg n45, hn2.2.2.2, List.take_of_length_le (Nat.le_refl _), if_pos hn]
theorem one_num (a3 : Int) (h0 : -9223372036854775808 ≤ a3) (h1 : a3 ≤ 9223372036854775807) : Lx.One readOf piOf (Lib.itoa a3) (2, [], a3) := by
  have hpi := pi_itoa a3 h0 h1
  obtain ⟨c, r, hcr, hz⟩ := dec_head a3.natAbs a3.natAbs (Nat.le_refl _)
  have hall := dec_dgt a3.natAbs a3.natAbs (Nat.le_refl _)
  have hrun := Lx.run_all Lx.dgt _ hall
  have hcd := of_decide_eq_true (hall c (by rw [hcr]; simp))
  have hnum : Lx.num piOf (Lib.itoa a3) = some (a3, (Lib.itoa a3).length) := by
    have hb : Lx.body (Lib.itoa a3) = Lib.decDigits a3.natAbs := by
      unfold Lib.itoa
      split
      · rfl
      · rw [show a3.toNat = a3.natAbs by omega, hcr]
        unfold Lx.body
        dsimp only
        rw [if_neg (fun z => by rw [z] at hcd; revert hcd; decide)]
    have hlen := Lx.body_len (Lib.itoa a3)
    unfold Lx.num
    dsimp only
    rw [hb] at hlen ⊢
    rw [hrun, show (Lib.itoa a3).length - (Lib.decDigits a3.natAbs).length + (Lib.decDigits a3.natAbs).length = (Lib.itoa a3).length by omega, List.take_of_length_le (Nat.le_refl _), hpi]
    dsimp only
    rw [if_neg]
    rintro (⟨z1, z2⟩ | ⟨x, z1, _⟩)
    · rw [hcr] at z1
      have hc48 : c = 48 := by simpa using z1
      have ha := hz hc48
      have : a3 = 0 := by omega
      rw [this] at z2
      unfold Lib.itoa at z2
      rw [if_neg (by decide)] at z2
      have : (Lib.decDigits (0 : Int).toNat).length = 1 := by rw [show (0 : Int).toNat = 0 from rfl, dec_zero]; rfl
      omega
    · rw [List.getElem?_eq_none (Nat.le_refl _)] at z1; cases z1
  obtain ⟨x, y, hxy, hx⟩ : ∃ x y, Lib.itoa a3 = x :: y ∧ (x.toNat = 45 ∨ (48 ≤ x.toNat ∧ x.toNat ≤ 57)) := by
    unfold Lib.itoa
    split
    · exact ⟨45, _, rfl, .inl rfl⟩
    · rw [show a3.toNat = a3.natAbs by omega, hcr]; exact ⟨c, r, rfl, .inr hcd⟩
  rw [hxy] at hnum ⊢
  have hm : Lx.mrk x = false := by unfold Lx.mrk; rw [decide_eq_false_iff_not]; omega
  refine ⟨?_, x, y, rfl, by unfold Lx.blk; rw [decide_eq_false_iff_not]; omega⟩
  unfold Lx.first
  dsimp only
  rw [hm, if_neg (by decide), if_neg (fun z => by rw [z] at hx; revert hx; decide), if_pos (by
    rcases hx with hx | hx
    · left; exact UInt8.toNat_inj.1 hx
    · right; exact decide_eq_true hx), hnum]
end Go.Proofs.YtimjendkpjojoaaGreatDoor
