/- Sp1, Sa1, G1, G2, G3 in one. -/
import Derived.Test.YtmjapbjjfhmohaaRows
import Derived.BigQuiet
import Derived.BigRegion
import Derived.Deep.AppendLies
import Derived.Deep.DeepCutAuto
import Derived.Deep.DeepFit
import Derived.Deep.MidRow
import Derived.Deep.QuietTactic
import Derived.Deep.RegionHeld3
import Derived.Deep.RegionLaw
import Derived.Handy
import Derived.IntWalk
import Derived.Laws.AppendOwn
import Derived.Laws.Bits64b
import Derived.Laws.CopyOwn
import Derived.Laws.OwnMore
import Derived.Lib.Hide
import Derived.Lib.Mul64
import Derived.Maps.AppendAt
import Derived.OpenShut
import Derived.Outline
import Derived.OwnWalk
import Derived.ProofKit
import Derived.ScopeJumps
import Derived.Shelf.Slices.Clone
import Derived.StillTailTactics
import Derived.WalkKit
import Derived.WalkMore
import Derived.WalkSpells
import Derived.KernelRfl
namespace Go.Proofs.Ytmjapbjjfhmohaa
set_option linter.unusedVariables false
set_option linter.unusedSimpArgs false
open Go.ChangeShapes Go.WideShapes Go.ChangeAt Go.RowKit
abbrev Sp := Int × Int
/-- Right from a tick on. -/
def Rt (lo : Int) : List Sp → Prop
  | [] => True
  | s :: r => lo ≤ s.1 ∧ s.1 ≤ s.2 ∧ s.2 ≤ 1099511627776 ∧ Rt (s.2 + 2) r
abbrev Good (l : List Sp) : Prop := Rt (-1099511627776) l
def mem (l : List Sp) (t : Int) : Prop := ∃ s, s ∈ l ∧ s.1 ≤ t ∧ t ≤ s.2
theorem mem_nil (t : Int) : ¬ mem [] t := by rintro ⟨s, h, _⟩; cases h
theorem mem_cons (s : Sp) (r : List Sp) (t : Int) : mem (s :: r) t ↔ (s.1 ≤ t ∧ t ≤ s.2) ∨ mem r t := by
  constructor
  · rintro ⟨x, h, a, b⟩
    rcases List.mem_cons.1 h with rfl | h
    · exact .inl ⟨a, b⟩
    · exact .inr ⟨x, h, a, b⟩
  · rintro (⟨a, b⟩ | ⟨x, h, a, b⟩)
    · exact ⟨s, List.mem_cons_self .., a, b⟩
    · exact ⟨x, List.mem_cons_of_mem _ h, a, b⟩
theorem mem_append (a b : List Sp) (t : Int) : mem (a ++ b) t ↔ mem a t ∨ mem b t := by
  induction a with
  | nil => simp [mem_nil]
  | cons s r ih => rw [List.cons_append, mem_cons, mem_cons, ih]; exact (or_assoc).symm
theorem rt_mono {lo lo' : Int} (h : lo' ≤ lo) : ∀ {l : List Sp}, Rt lo l → Rt lo' l
  | [], _ => trivial
  | s :: r, ⟨a, b, c, d⟩ => ⟨by omega, b, c, d⟩
theorem rt_lo : ∀ {l : List Sp} {lo : Int}, Rt lo l → ∀ {t : Int}, mem l t → lo ≤ t ∧ t ≤ 1099511627776
  | [], _, _, t, h => absurd h (mem_nil t)
  | s :: r, lo, ⟨a, b, c, d⟩, t, h => by
    rcases (mem_cons s r t).1 h with ⟨x, y⟩ | h
    · omega
    · have := rt_lo d h; omega
/-- Each set of ticks is kept in one way. -/
theorem rt_unique : ∀ {a b : List Sp} {lo lo' : Int}, Rt lo a → Rt lo' b → (∀ t, mem a t ↔ mem b t) → a = b
  | [], [], _, _, _, _, _ => rfl
  | [], s :: r, _, _, _, ⟨a, b, c, d⟩, h => absurd ((h s.1).2 ((mem_cons s r s.1).2 (.inl ⟨by omega, by omega⟩))) (mem_nil _)
  | s :: r, [], _, _, ⟨a, b, c, d⟩, _, h => absurd ((h s.1).1 ((mem_cons s r s.1).2 (.inl ⟨by omega, by omega⟩))) (mem_nil _)
  | s :: r, s' :: r', lo, lo', ⟨a, b, c, d⟩, ⟨a', b', c', d'⟩, h => by
    have e1 : s.1 = s'.1 := by
      have x := (h s.1).1 ((mem_cons s r s.1).2 (.inl ⟨by omega, by omega⟩))
      have y := (h s'.1).2 ((mem_cons s' r' s'.1).2 (.inl ⟨by omega, by omega⟩))
      have x' := (rt_lo (lo := s'.1) (l := s' :: r') ⟨by omega, b', c', d'⟩ x).1
      have y' := (rt_lo (lo := s.1) (l := s :: r) ⟨by omega, b, c, d⟩ y).1
      omega
    have e2 : s.2 = s'.2 := by
      rcases Int.lt_trichotomy s.2 s'.2 with q | q | q
      · have x := (h (s.2 + 1)).2 ((mem_cons s' r' _).2 (.inl ⟨by omega, by omega⟩))
        rcases (mem_cons s r _).1 x with z | z
        · omega
        · have := (rt_lo d z).1; omega
      · exact q
      · have x := (h (s'.2 + 1)).1 ((mem_cons s r _).2 (.inl ⟨by omega, by omega⟩))
        rcases (mem_cons s' r' _).1 x with z | z
        · omega
        · have := (rt_lo d' z).1; omega
    obtain rfl : s = s' := Prod.ext e1 e2
    rw [rt_unique d d' (fun t => ⟨fun z => ?_, fun z => ?_⟩)]
    · have x := (h t).1 ((mem_cons s r t).2 (.inr z))
      have := (rt_lo d z).1
      rcases (mem_cons s r' t).1 x with y | y
      · omega
      · exact y
    · have x := (h t).2 ((mem_cons s r' t).2 (.inr z))
      have := (rt_lo d' z).1
      rcases (mem_cons s r t).1 x with y | y
      · omega
      · exact y
/-- From where on a further span is right. -/
def nxt (lo : Int) : List Sp → Int
  | [] => lo
  | s :: r => nxt (s.2 + 2) r
theorem rt_snoc : ∀ (l : List Sp) (lo : Int) (s : Sp), Rt lo (l ++ [s]) ↔ Rt lo l ∧ nxt lo l ≤ s.1 ∧ s.1 ≤ s.2 ∧ s.2 ≤ 1099511627776
  | [], lo, s => by simp [Rt, nxt]
  | x :: r, lo, s => by
    rw [List.cons_append]
    simp only [Rt, nxt, rt_snoc r]
    constructor
    · rintro ⟨a, b, c, d, e⟩; exact ⟨⟨a, b, c, d⟩, e⟩
    · rintro ⟨⟨a, b, c, d⟩, e⟩; exact ⟨a, b, c, d, e⟩
theorem nxt_snoc : ∀ (l : List Sp) (lo : Int) (s : Sp), nxt lo (l ++ [s]) = s.2 + 2
  | [], _, _ => rfl
  | x :: r, _, s => nxt_snoc r _ s
theorem nxt_le : ∀ {l : List Sp} {lo : Int}, Rt lo l → lo ≤ nxt lo l
  | [], _, _ => Int.le_refl _
  | s :: r, lo, ⟨a, b, c, d⟩ => by have := nxt_le d; simp only [nxt]; omega
theorem mem_nxt : ∀ {l : List Sp} {lo t : Int}, Rt lo l → mem l t → t + 2 ≤ nxt lo l
  | [], _, t, _, h => absurd h (mem_nil t)
  | s :: r, lo, t, ⟨a, b, c, d⟩, h => by
    simp only [nxt]
    rcases (mem_cons s r t).1 h with z | z
    · have := nxt_le d; omega
    · exact mem_nxt d z
/-- The n-th border. -/
def bd (l : List Sp) (n : Nat) : Int := if n % 2 = 0 then (l.getD (n / 2) (0, 0)).1 else (l.getD (n / 2) (0, 0)).2 + 1
/-- How many borders are not beyond a tick. -/
def cnt : List Sp → Int → Nat
  | [], _ => 0
  | s :: r, t => (if s.1 ≤ t then 1 else 0) + (if s.2 + 1 ≤ t then 1 else 0) + cnt r t
theorem cnt_low : ∀ {l : List Sp} {lo t : Int}, Rt lo l → t < lo → cnt l t = 0
  | [], _, _, _, _ => rfl
  | s :: r, lo, t, ⟨a, b, c, d⟩, h => by
    have := cnt_low d (t := t) (by omega)
    simp only [cnt, this]
    rw [if_neg (by omega), if_neg (by omega)]
theorem cnt_le : ∀ (l : List Sp) (t : Int), cnt l t ≤ 2 * l.length
  | [], _ => Nat.le_refl _
  | s :: r, t => by
    have := cnt_le r t
    simp only [cnt, List.length_cons]; split <;> split <;> omega
theorem cnt_mem : ∀ {l : List Sp} {lo : Int}, Rt lo l → ∀ t, mem l t ↔ cnt l t % 2 = 1
  | [], _, _, t => by simp [mem_nil, cnt]
  | s :: r, lo, ⟨a, b, c, d⟩, t => by
    rw [mem_cons]
    simp only [cnt]
    by_cases h1 : s.1 ≤ t
    · by_cases h2 : s.2 + 1 ≤ t
      · rw [if_pos h1, if_pos h2]
        have := cnt_mem d t
        constructor
        · rintro (z | z)
          · omega
          · have := this.1 z; omega
        · intro z; exact .inr (this.2 (by omega))
      · rw [if_pos h1, if_neg h2, cnt_low d (by omega)]
        exact ⟨fun _ => rfl, fun _ => .inl ⟨h1, by omega⟩⟩
    · have h2 : ¬ s.2 + 1 ≤ t := by omega
      rw [if_neg h1, if_neg h2, cnt_low d (by omega)]
      constructor
      · rintro (z | z)
        · omega
        · have := (rt_lo d z).1; omega
      · intro z; omega
theorem bd_zero (s : Sp) (r : List Sp) : bd (s :: r) 0 = s.1 := rfl
theorem bd_one (s : Sp) (r : List Sp) : bd (s :: r) 1 = s.2 + 1 := rfl
theorem bd_two (s : Sp) (r : List Sp) (n : Nat) : bd (s :: r) (n + 2) = bd r n := by
  unfold bd
  rw [show (n + 2) % 2 = n % 2 by omega, show (n + 2) / 2 = n / 2 + 1 by omega]
  rfl
/-- Beyond a tick there is one border next, and it is told by how many are not beyond it. -/
theorem bd_next : ∀ {l : List Sp} {lo : Int}, Rt lo l → ∀ T, cnt l T < 2 * l.length → T < bd l (cnt l T) ∧ (∀ t, T ≤ t → t < bd l (cnt l T) → cnt l t = cnt l T) ∧ cnt l (bd l (cnt l T)) = cnt l T + 1 ∧ lo ≤ bd l (cnt l T) ∧ bd l (cnt l T) ≤ 1099511627777
  | [], _, _, T, h => absurd h (Nat.not_lt_zero _)
  | s :: r, lo, ⟨a, b, c, d⟩, T, h => by
    by_cases h1 : s.1 ≤ T
    · by_cases h2 : s.2 + 1 ≤ T
      · have e : cnt (s :: r) T = cnt r T + 2 := by simp only [cnt, if_pos h1, if_pos h2]; omega
        rw [e] at h ⊢
        simp only [List.length_cons] at h
        have i := bd_next d T (by omega)
        rw [bd_two]
        refine ⟨i.1, fun t h3 h4 => ?_, ?_, by have := i.2.2.2.1; omega, i.2.2.2.2⟩
        · have := i.2.1 t h3 h4
          simp only [cnt]
          rw [if_pos (by omega), if_pos (by omega), this]; omega
        · have := i.2.2.1
          have := i.1
          simp only [cnt]
          rw [if_pos (by omega), if_pos (by omega), i.2.2.1]; omega
      · have e : cnt (s :: r) T = 1 := by simp only [cnt, if_pos h1, if_neg h2, cnt_low d (show T < s.2 + 2 by omega)]
        rw [e, bd_one]
        refine ⟨by omega, fun t h3 h4 => ?_, ?_, by omega, by omega⟩
        · simp only [cnt]
          rw [if_pos (by omega), if_neg (by omega), cnt_low d (by omega)]
        · simp only [cnt]
          rw [if_pos (by omega), if_pos (by omega), cnt_low d (by omega)]
    · have h2 : ¬ s.2 + 1 ≤ T := by omega
      have e : cnt (s :: r) T = 0 := by simp only [cnt, if_neg h1, if_neg h2, cnt_low d (show T < s.2 + 2 by omega)]
      rw [e, bd_zero]
      refine ⟨by omega, fun t h3 h4 => ?_, ?_, by omega, by omega⟩
      · simp only [cnt]
        rw [if_neg (by omega), if_neg (by omega), cnt_low d (by omega)]
      · simp only [cnt]
        rw [if_pos (by omega), if_neg (by omega), cnt_low d (by omega)]
theorem cnt_mono : ∀ (l : List Sp) {t u : Int}, t ≤ u → cnt l t ≤ cnt l u
  | [], _, _, _ => Nat.le_refl _
  | s :: r, t, u, h => by
    have := cnt_mono r h
    simp only [cnt]; split <;> split <;> split <;> split <;> omega
theorem cnt_all {l : List Sp} {T : Int} (h : cnt l T = 2 * l.length) {t : Int} (ht : T ≤ t) : cnt l t = 2 * l.length := by
  have := cnt_mono l ht; have := cnt_le l t; omega
/-- An event: a tick, and how it is from there on. -/
abbrev Ev := Int × Bool × Bool
def odd (n : Nat) : Bool := n % 2 == 1
/-- The events so far, and the last tick at which there was one. -/
inductive Run (a b : List Sp) : List Ev → Int → Prop
  | start : Run a b [] (-1099511627777)
  | more {E : List Ev} {T at_ : Int} : Run a b E T → T < at_ → at_ ≤ 1099511627777 → (∀ t, T ≤ t → t < at_ → cnt a t = cnt a T ∧ cnt b t = cnt b T) → Run a b (E ++ [(at_, odd (cnt a at_), odd (cnt b at_))]) at_
/-- What becomes of a set at an event. -/
def put (f : Bool → Bool → Bool) (st : List Sp × Int × Bool) (e : Ev) : List Sp × Int × Bool :=
  (if st.2.2 = true ∧ f e.2.1 e.2.2 = false then st.1 ++ [(st.2.1, e.1 - 1)] else st.1, if f e.2.1 e.2.2 = true ∧ st.2.2 = false then e.1 else st.2.1, f e.2.1 e.2.2)
def puts (f : Bool → Bool → Bool) (E : List Ev) : List Sp × Int × Bool := E.foldl (put f) ([], 0, false)
theorem puts_snoc (f : Bool → Bool → Bool) (E : List Ev) (e : Ev) : puts f (E ++ [e]) = put f (puts f E) e := by
  unfold puts; rw [List.foldl_append]; rfl
structure Kept (f : Bool → Bool → Bool) (a b : List Sp) (st : List Sp × Int × Bool) (T : Int) : Prop where
  right : Good st.1
  open_ : st.2.2 = f (odd (cnt a T)) (odd (cnt b T))
  from_ : st.2.2 = true → nxt (-1099511627776) st.1 ≤ st.2.1 ∧ st.2.1 ≤ T
  shut : st.2.2 = false → nxt (-1099511627776) st.1 ≤ T + 1
  ticks : ∀ t, t ≤ T → ((mem st.1 t ∨ (st.2.2 = true ∧ st.2.1 ≤ t)) ↔ f (odd (cnt a t)) (odd (cnt b t)) = true)
theorem run_le {a b : List Sp} {E : List Ev} {T : Int} (h : Run a b E T) : -1099511627777 ≤ T ∧ T ≤ 1099511627777 := by
  induction h with
  | start => omega
  | more _ h1 h2 _ ih => omega
theorem puts_kept {f : Bool → Bool → Bool} (hf : f false false = false) {a b : List Sp} (ha : Good a) (hb : Good b) {E : List Ev} {T : Int} (h : Run a b E T) : Kept f a b (puts f E) T := by
  induction h with
  | start =>
    refine ⟨trivial, ?_, (fun e => by cases e), fun _ => Int.le_refl _, fun t ht => ?_⟩
    · rw [cnt_low ha (by omega), cnt_low hb (by omega)]; exact hf.symm
    · rw [cnt_low ha (by omega), cnt_low hb (by omega)]
      show _ ↔ f false false = true
      rw [hf]
      constructor
      · rintro (z | z)
        · exact absurd z (mem_nil t)
        · cases z.1
      · intro z; cases z
  | @more E T x hr h1 h2 h3 ih =>
    rw [puts_snoc]
    obtain ⟨k1, k2, k3, k4, k5⟩ := ih
    generalize puts f E = st at *
    obtain ⟨R, fr, op⟩ := st
    simp only at k1 k2 k3 k4 k5
    -- between the last event and this one nothing changes
    have flat : ∀ t, T ≤ t → t < x → f (odd (cnt a t)) (odd (cnt b t)) = op := by
      intro t ha hb
      rw [(h3 t ha hb).1, (h3 t ha hb).2, k2]
    have bdT := run_le hr
    cases hop : op
    · subst hop
      have k4 := k4 rfl
      cases hw : f (odd (cnt a x)) (odd (cnt b x))
      · -- stays shut
        refine ⟨?_, ?_, ?_, ?_, fun t ht => ?_⟩
        · simpa [put, hw] using k1
        · simp [put, hw]
        · simp [put, hw]
        · intro _; simp [put, hw]; omega
        · simp only [put, hw]
          by_cases q : t ≤ T
          · simpa using k5 t q
          · have e : f (odd (cnt a t)) (odd (cnt b t)) = false := by
              by_cases q2 : t < x
              · exact flat t (by omega) q2
              · rw [show t = x by omega]; exact hw
            rw [e]
            have : ¬ mem R t := fun z => by have := mem_nxt k1 z; omega
            simp [this]
      · -- opens
        refine ⟨?_, ?_, ?_, ?_, fun t ht => ?_⟩
        · simpa [put, hw] using k1
        · simp [put, hw]
        · intro _; simp [put, hw]; omega
        · simp [put, hw]
        · simp only [put, hw]
          by_cases q : t ≤ T
          · have := k5 t q
            simp at this ⊢
            rw [← this]
            constructor
            · rintro (z | z)
              · exact z
              · omega
            · exact .inl
          · by_cases q2 : t < x
            · have e := flat t (by omega) q2
              rw [e]
              have : ¬ mem R t := fun z => by have := mem_nxt k1 z; omega
              simp [this]; omega
            · rw [show t = x by omega, hw]; simp
    · subst hop
      obtain ⟨k3a, k3b⟩ := k3 rfl
      cases hw : f (odd (cnt a x)) (odd (cnt b x))
      · -- shuts
        have hm : x - 1 ≤ 1099511627776 := by omega
        refine ⟨?_, ?_, ?_, ?_, fun t ht => ?_⟩
        · have : Good (R ++ [(fr, x - 1)]) := (rt_snoc R _ _).2 ⟨k1, k3a, by show fr ≤ x - 1; omega, hm⟩
          simpa [put, hw] using this
        · simp [put, hw]
        · simp [put, hw]
        · intro _; simp [put, hw, nxt_snoc]; omega
        · simp only [put, hw]
          by_cases q : t < x
          · have e : (mem R t ∨ fr ≤ t) ↔ f (odd (cnt a t)) (odd (cnt b t)) = true := by
              by_cases q2 : t ≤ T
              · simpa using k5 t q2
              · rw [flat t (by omega) q]
                exact ⟨fun _ => rfl, fun _ => .inr (by omega)⟩
            rw [← e]
            simp only [if_true, and_self, mem_append, mem_cons]
            constructor
            · rintro ((z | z) | z)
              · exact .inl z
              · rcases z with z | z
                · exact .inr z.1
                · exact absurd z (mem_nil t)
              · cases z.1
            · rintro (z | z)
              · exact .inl (.inl z)
              · exact .inl (.inr (.inl ⟨z, by show t ≤ x - 1; omega⟩))
          · have et : t = x := by omega
            subst et
            rw [hw]
            simp only [if_true, and_self, mem_append, mem_cons]
            constructor
            · rintro ((z | z) | z)
              · have := mem_nxt k1 z; omega
              · rcases z with z | z
                · have : t ≤ t - 1 := z.2
                  omega
                · exact absurd z (mem_nil t)
              · cases z.1
            · intro z; cases z
      · -- stays open
        refine ⟨?_, ?_, ?_, ?_, fun t ht => ?_⟩
        · simpa [put, hw] using k1
        · simp [put, hw]
        · intro _; simp [put, hw]; omega
        · simp [put, hw]
        · simp only [put, hw]
          by_cases q : t ≤ T
          · simpa using k5 t q
          · have e : f (odd (cnt a t)) (odd (cnt b t)) = true := by
              by_cases q2 : t < x
              · exact flat t (by omega) q2
              · rw [show t = x by omega]; exact hw
            rw [e]
            simp; right; omega
/-- What is kept, when all borders are over. -/
theorem puts_done {f : Bool → Bool → Bool} (hf : f false false = false) {a b : List Sp} (ha : Good a) (hb : Good b) {E : List Ev} {T : Int} (h : Run a b E T) (ea : cnt a T = 2 * a.length) (eb : cnt b T = 2 * b.length) :
    Good (puts f E).1 ∧ ∀ t, mem (puts f E).1 t ↔ f (decide (cnt a t % 2 = 1)) (decide (cnt b t % 2 = 1)) = true := by
  have k := puts_kept hf ha hb h
  have e1 : odd (2 * a.length) = false := by simp [odd]
  have e2 : odd (2 * b.length) = false := by simp [odd]
  have sh : (puts f E).2.2 = false := by rw [k.open_, ea, eb, e1, e2, hf]
  refine ⟨k.right, fun t => ?_⟩
  have eo : ∀ n : Nat, decide (n % 2 = 1) = odd n := fun n => by unfold odd; by_cases q : n % 2 = 1 <;> simp [q]
  rw [eo, eo]
  by_cases q : t ≤ T
  · rw [← k.ticks t q, sh]; simp
  · have z := k.shut sh
    have e3 := cnt_all ea (t := t) (by omega)
    have e4 := cnt_all eb (t := t) (by omega)
    rw [e3, e4, e1, e2, hf]
    constructor
    · intro y; have := mem_nxt k.right y; omega
    · intro y; cases y
theorem ret_int {k : IntKind} {a b : Int} (h : a = b) : Ending.returned (.int k a) = .returned (.int k b) := by rw [h]
theorem ret_bool {a b : Bool} (h : a = b) : Ending.returned (.bool a) = .returned (.bool b) := by rw [h]
theorem cell_here {w : World} {a : Addr} {v : Value} (h : w.cell? a = some v) : a.block < w.heap.size := by
  rcases Nat.lt_or_ge a.block w.heap.size with h' | h'
  · exact h'
  · unfold World.cell? at h
    rw [Array.getElem?_eq_none h'] at h; simp at h
theorem cell_keep {w w' : World} {a : Addr} {v : Value} (h : w.cell? a = some v) (b : Below w.heap.size w w') : w'.cell? a = some v := by
  rw [← h]
  unfold World.cell?
  rw [b.block a.block (cell_here h)]
theorem below_drewN {B : Nat} {a w : World} (h : Below B a w) (n : Nat) : Below B a (w.drewN n) := ⟨h.os, h.tape, h.output, h.size, h.block⟩
/-- A slice that reads as spans. -/
structure SpAt (w : World) (ao : Option Addr) (n c : Nat) (l : List Sp) : Prop where
  len : l.length = n
  le : n ≤ c
  top : c ≤ 9223372036854775807
  bare : ao = none → n = 0 ∧ c = 0
  here : 0 < n → ∃ b p, ao = some ⟨b, p, none⟩ ∧ ∀ i (h : i < l.length), w.cell? ⟨b, p + i * 2, none⟩ = some (.int .i64 l[i].1) ∧ w.cell? ⟨b, p + i * 2 + 1, none⟩ = some (.int .i64 l[i].2)
theorem SpAt.keep {w w' : World} {ao : Option Addr} {n c : Nat} {l : List Sp} (h : SpAt w ao n c l) (k : Below w.heap.size w w') : SpAt w' ao n c l :=
  ⟨h.len, h.le, h.top, h.bare, fun h0 => by
    obtain ⟨b, p, e, hc⟩ := h.here h0
    exact ⟨b, p, e, fun i hi => ⟨cell_keep (hc i hi).1 k, cell_keep (hc i hi).2 k⟩⟩⟩
theorem SpAt.nil (w : World) : SpAt w none 0 0 [] := ⟨rfl, Nat.le_refl _, by omega, fun _ => ⟨rfl, rfl⟩, fun h => absurd h (Nat.lt_irrefl _)⟩
def tickB (t : Int) : Bool := decide (-1099511627776 ≤ t) && decide (t ≤ 1099511627776)
theorem tick_any (t : Int) (w : World) : Calls Try.prog 77 #[.int .i64 t] w fun e w' => e = .returned (.bool (tickB t)) ∧ w = w' := by
  unfold tickB
  by_cases h1 : -1099511627776 ≤ t
  · have e1 : decide (-1099511627776 ≤ t) = true := decide_eq_true h1
    go_enter Try.func77, Try.ntmps77
    go_wp2
    go_returns
    exact ⟨by first | rfl | (rw [e1]; rfl), rfl⟩
  · have e1 : decide (-1099511627776 ≤ t) = false := decide_eq_false h1
    go_enter Try.func77, Try.ntmps77
    go_wp2
    go_returns
    exact ⟨by first | rfl | (rw [e1]; rfl), rfl⟩
theorem tickB_iff (t : Int) : tickB t = true ↔ -1099511627776 ≤ t ∧ t ≤ 1099511627776 := by unfold tickB; simp
/-- Numbers that fit. -/
def FitL (l : List Sp) : Prop := ∀ s ∈ l, (-9223372036854775808 ≤ s.1 ∧ s.1 ≤ 9223372036854775807) ∧ (-9223372036854775808 ≤ s.2 ∧ s.2 ≤ 9223372036854775807)
theorem mem_take_snoc (l : List Sp) (k : Nat) (h : k < l.length) (t : Int) : mem (l.take (k + 1)) t ↔ mem (l.take k) t ∨ (l[k].1 ≤ t ∧ t ≤ l[k].2) := by
  rw [List.take_succ_eq_append_getElem h, mem_append, mem_cons]
  simp [mem_nil]
theorem good_at : ∀ {l : List Sp} {lo : Int}, Rt lo l → ∀ i (h : i < l.length), lo ≤ l[i].1 ∧ l[i].1 ≤ l[i].2 ∧ l[i].2 ≤ 1099511627776
  | s :: r, lo, ⟨a, b, c, d⟩, 0, h => ⟨a, b, c⟩
  | s :: r, lo, ⟨a, b, c, d⟩, i + 1, h => by
    have := good_at d i (by simpa using h)
    simp only [List.getElem_cons_succ]
    omega
theorem good_lt : ∀ {l : List Sp} {lo : Int}, Rt lo l → ∀ i j (hi : i < l.length) (hj : j < l.length), i < j → l[i].2 + 2 ≤ l[j].1
  | s :: r, lo, ⟨a, b, c, d⟩, 0, j + 1, hi, hj, _ => by
    have := good_at d j (by simpa using hj)
    simp only [List.getElem_cons_zero, List.getElem_cons_succ]
    omega
  | s :: r, lo, ⟨a, b, c, d⟩, i + 1, j + 1, hi, hj, h => by
    have := good_lt d i j (by simpa using hi) (by simpa using hj) (by omega)
    simp only [List.getElem_cons_succ]
    exact this
theorem good_le {l : List Sp} {lo : Int} (h : Rt lo l) (i j : Nat) (hi : i < l.length) (hj : j < l.length) (q : i ≤ j) : l[i].2 ≤ l[j].2 := by
  by_cases e : i = j
  · subst e; exact Int.le_refl _
  · have := good_lt h i j hi hj (by omega)
    have := good_at h j hj
    omega
/-- The first span that ends at a tick or behind it. -/
structure EndIs (l : List Sp) (t : Int) (i : Nat) : Prop where
  low : ∀ j (h : j < l.length), j < i → l[j].2 < t
  high : ∀ (h : i < l.length), t ≤ l[i].2
theorem box_one (w : World) (x : Value) (t : TypeId) : (w.alloc (.cells #[x] t)).cell? ⟨w.heap.size, 0, none⟩ = some x := by
  have h : (w.alloc (.cells #[x] t)).heap[w.heap.size]? = some (.cells #[x] t) := by
    show (w.heap.push _)[w.heap.size]? = _
    simp
  unfold World.cell?; rw [h]; rfl
theorem end_mem {l : List Sp} {lo t : Int} {i : Nat} (hg : Rt lo l) (h : EndIs l t i) : mem l t ↔ ∃ q : i < l.length, l[i].1 ≤ t := by
  constructor
  · rintro ⟨s, hs, h1, h2⟩
    obtain ⟨j, hj, rfl⟩ := List.getElem_of_mem hs
    rcases Nat.lt_trichotomy j i with q | q | q
    · have := h.low j hj q; omega
    · subst q; exact ⟨hj, h1⟩
    · have hi : i < l.length := by omega
      have := h.high hi
      have := good_lt hg i j hi hj q
      omega
  · rintro ⟨q, h1⟩
    exact ⟨l[i], List.getElem_mem q, h1, h.high q⟩
theorem box_cells (w : World) (x y : Value) (t : TypeId) : (w.alloc (.cells #[x, y] t)).cell? ⟨w.heap.size, 0, none⟩ = some x ∧ (w.alloc (.cells #[x, y] t)).cell? ⟨w.heap.size, 1, none⟩ = some y := by
  have h : (w.alloc (.cells #[x, y] t)).heap[w.heap.size]? = some (.cells #[x, y] t) := by
    show (w.heap.push _)[w.heap.size]? = _
    simp
  constructor <;> (unfold World.cell?; rw [h]; rfl)
theorem within_one {b : List Sp} {lo : Int} (hg : Rt lo b) {s : Sp} (hs : s.1 ≤ s.2) {i : Nat} (h : EndIs b s.2 i) : (∀ t, s.1 ≤ t → t ≤ s.2 → mem b t) ↔ ∃ q : i < b.length, b[i].1 ≤ s.1 := by
  constructor
  · intro z
    obtain ⟨q, h1⟩ := (end_mem hg h).1 (z s.2 hs (Int.le_refl _))
    refine ⟨q, ?_⟩
    by_cases c : b[i].1 ≤ s.1
    · exact c
    · obtain ⟨u, hu, u1, u2⟩ := z (b[i].1 - 1) (by omega) (by omega)
      obtain ⟨j, hj, rfl⟩ := List.getElem_of_mem hu
      rcases Nat.lt_trichotomy j i with e | e | e
      · have := good_lt hg j i hj q e; omega
      · subst e; omega
      · have := good_lt hg i j q hj e
        have := good_at hg i q
        omega
  · rintro ⟨q, h1⟩ t t1 t2
    exact ⟨b[i], List.getElem_mem q, by omega, by have := h.high q; omega⟩
theorem meet_one {b : List Sp} {lo : Int} (hg : Rt lo b) {s : Sp} (hs : s.1 ≤ s.2) {i : Nat} (h : EndIs b s.1 i) : (∃ t, (s.1 ≤ t ∧ t ≤ s.2) ∧ mem b t) ↔ ∃ q : i < b.length, b[i].1 ≤ s.2 := by
  constructor
  · rintro ⟨t, ⟨t1, t2⟩, u, hu, u1, u2⟩
    obtain ⟨j, hj, rfl⟩ := List.getElem_of_mem hu
    rcases Nat.lt_trichotomy j i with e | e | e
    · have := h.low j hj e; omega
    · subst e; exact ⟨hj, by omega⟩
    · have q : i < b.length := by omega
      have := good_lt hg i j q hj e
      have := good_at hg i q
      exact ⟨q, by omega⟩
  · rintro ⟨q, h1⟩
    have := h.high q
    have := good_at hg i q
    exact ⟨max s.1 b[i].1, ⟨by omega, by omega⟩, b[i], List.getElem_mem q, by omega, by omega⟩
/-- How many ticks. -/
def count : List Sp → Int
  | [] => 0
  | s :: r => (s.2 - s.1 + 1) + count r
theorem count_snoc : ∀ (l : List Sp) (s : Sp), count (l ++ [s]) = count l + (s.2 - s.1 + 1)
  | [], s => by simp [count]
  | x :: r, s => by rw [List.cons_append]; simp only [count, count_snoc r]; omega
theorem count_le : ∀ {l : List Sp} {lo : Int}, Rt lo l → 0 ≤ count l ∧ count l + lo ≤ nxt lo l ∧ (l = [] ∨ nxt lo l ≤ 1099511627778)
  | [], lo, _ => by simp [count, nxt]
  | s :: r, lo, ⟨a, b, c, d⟩ => by
    have := count_le d
    simp only [count, nxt]
    refine ⟨by omega, by omega, .inr ?_⟩
    rcases this.2.2 with rfl | h
    · simp [nxt]; omega
    · exact h
theorem rt_take : ∀ {l : List Sp} {lo : Int}, Rt lo l → ∀ k, Rt lo (l.take k)
  | [], _, _, k => by simp [Rt]
  | s :: r, lo, ⟨a, b, c, d⟩, 0 => trivial
  | s :: r, lo, ⟨a, b, c, d⟩, k + 1 => ⟨a, b, c, rt_take d k⟩
theorem nxt_take : ∀ {l : List Sp} {lo : Int}, Rt lo l → ∀ k, nxt lo (l.take k) ≤ 1099511627778 ∨ nxt lo (l.take k) ≤ lo
  | [], lo, _, k => .inr (by simp [nxt])
  | s :: r, lo, ⟨a, b, c, d⟩, 0 => .inr (Int.le_refl _)
  | s :: r, lo, ⟨a, b, c, d⟩, k + 1 => by
    simp only [List.take_succ_cons, nxt]
    rcases nxt_take d k with h | h
    · exact .inl h
    · exact .inl (by omega)
theorem ahead_any (ao bo : Option Addr) (n c m d : Nat) (a b : List Sp) (w : World) (ha : SpAt w ao n c a) (hb : SpAt w bo m d b) (ga : Good a) (gb : Good b) (r : Bool) (hr : r = true ↔ ∀ s ∈ a, ∀ u ∈ b, s.2 < u.1) :
    Calls Try.prog 66 #[.slice ao n c, .slice bo m d] w fun e w' => e = .returned (.bool r) ∧ Below w.heap.size w w' := by
  have LA := ha.len
  have LB := hb.len
  by_cases h1 : n = 0
  · have HE : Hid (true = r) := Lib.hid (by
      obtain rfl : a = [] := List.eq_nil_of_length_eq_zero (by omega)
      exact (hr.2 (fun s h => by cases h)).symm)
    have t1 : ((n : Int) == 0) = true := by simp; omega
    clear h1 hr LA LB ha hb ga gb
    go_enter Try.func66, Try.ntmps66
    go_wp2
    go_quiet (fail)
    go_wp2
    go_returns
    exact ⟨ret_bool HE.out, below_drewN (Below.refl _ _) _⟩
  · by_cases h2 : m = 0
    · have HE : Hid (true = r) := Lib.hid (by
        obtain rfl : b = [] := List.eq_nil_of_length_eq_zero (by omega)
        exact (hr.2 (fun s h u hu => by cases hu)).symm)
      have t1 : ((n : Int) == 0) = false := by simp; omega
      have t2 : ((m : Int) == 0) = true := by simp; omega
      clear h1 h2 hr LA LB ha hb ga gb
      go_enter Try.func66, Try.ntmps66
      go_wp2
      go_quiet (fail)
      go_wp2
      go_returns
      exact ⟨ret_bool HE.out, below_drewN (Below.refl _ _) _⟩
    · obtain ⟨x, p, rfl, hc⟩ := ha.here (by omega)
      obtain ⟨y, q, rfl, hd⟩ := hb.here (by omega)
      have hk : n - 1 < a.length := by omega
      have hm : 0 < b.length := by omega
      have c1 := (hc (n - 1) hk).2
      have d1 := (hd 0 hm).1
      have HE : Hid (decide (a[n - 1].2 < b[0].1) = r) := Lib.hid (by
        by_cases z : a[n - 1].2 < b[0].1
        · rw [decide_eq_true z]
          refine (hr.2 (fun s hs u hu => ?_)).symm
          obtain ⟨i, hi, rfl⟩ := List.getElem_of_mem hs
          obtain ⟨j, hj, rfl⟩ := List.getElem_of_mem hu
          have e1 := good_le ga i (n - 1) hi hk (by omega)
          have e2 : b[0].1 ≤ b[j].1 := by
            by_cases w : j = 0
            · subst w; exact Int.le_refl _
            · have := good_lt gb 0 j hm hj (by omega)
              have := good_at gb 0 hm
              omega
          omega
        · rw [decide_eq_false z]
          cases r
          · rfl
          · exact absurd (hr.1 rfl _ (List.getElem_mem hk) _ (List.getElem_mem hm)) z)
      have hmx : n ≤ 9223372036854775807 := Nat.le_trans ha.le ha.top
      obtain ⟨k, hkk⟩ : ∃ k, n - 1 = k := ⟨_, rfl⟩
      have e1 : IntKind.i64.wrap ((n : Int) - 1) = (k : Int) := by rw [IntWalk.i64_in _ (by omega)]; omega
      have k0 : (0 : Int) ≤ (k : Int) := by omega
      have k1 : (k : Int) < (n : Int) := by omega
      have k2 : 0 < m := by omega
      have k3 : (0 : Int) < (m : Int) := by omega
      have t1 : ((n : Int) == 0) = false := by simp; omega
      have t2 : ((m : Int) == 0) = false := by simp; omega
      obtain ⟨X, hX⟩ : ∃ z, a[n - 1].2 = z := ⟨_, rfl⟩
      obtain ⟨Y, hY⟩ : ∃ z, b[0].1 = z := ⟨_, rfl⟩
      rw [hX, hkk] at c1
      rw [hY] at d1
      rw [hX, hY] at HE
      simp only [Nat.zero_mul, Nat.add_zero] at d1
      clear hX hY hkk hc hd hr ha hb ga gb LA LB h1 h2 hk hm
      go_enter Try.func66, Try.ntmps66
      go_wp2
      go_quiet (fail)
      go_wp2
      go_returns
      exact ⟨ret_bool HE.out, below_drewN (Below.refl _ _) _⟩
theorem take_eq_iff {a b : List Sp} (h : a.length = b.length) {k : Nat} (hk : k < a.length) (e : a.take k = b.take k) : a.take (k + 1) = b.take (k + 1) ↔ a[k] = b[k]'(by omega) := by
  have h1 := List.take_succ_eq_append_getElem hk
  have h2 := List.take_succ_eq_append_getElem (show k < b.length by omega)
  rw [h1, h2, e]
  exact ⟨fun z => (List.cons.inj (List.append_cancel_left z)).1, fun z => by rw [z]⟩
theorem equal_any (ao bo : Option Addr) (n c m d : Nat) (a b : List Sp) (w : World) (ha : SpAt w ao n c a) (hb : SpAt w bo m d b) (r : Bool) (hr : r = true ↔ a = b) :
    Calls Try.prog 34 #[.slice ao n c, .slice bo m d] w fun e w' => e = .returned (.bool r) ∧ Below w.heap.size w w' := by
  have HA := Lib.hid ha
  have HB := Lib.hid hb
  have HR := Lib.hid hr
  have hmx : n ≤ 9223372036854775807 := Nat.le_trans ha.le ha.top
  have LA := Lib.hid ha.len
  have LB := Lib.hid hb.len
  clear ha hb hr
  by_cases hnm : n = m
  · subst hnm
    have t1 : ((n : Int) != (n : Int)) = false := by simp
    go_enter Try.func34, Try.ntmps34
    go_wp2
    go_loopw [13] (fun ii wr => ∃ i : Nat, i ≤ n ∧ ii = .int .i64 i ∧ Hid (a.take i = b.take i) ∧ Hid (Below w.heap.size w wr)) (fun ii _ => n - (intOf ii).toNat)
    case atStart => exact ⟨0, Nat.zero_le _, rfl, Lib.hid rfl, Lib.hid (Below.refl _ _)⟩
    case round =>
      obtain ⟨i, hi, rfl, HI, HW⟩ := hrel
      by_cases ilt : i < n
      · obtain ⟨x, p, rfl, hc⟩ := HA.out.here (by omega)
        obtain ⟨y, q, rfl, hd⟩ := HB.out.here (by omega)
        have hia : i < a.length := by rw [LA.out]; exact ilt
        have hib : i < b.length := by rw [LB.out]; exact ilt
        have c1 := cell_keep (hc i hia).1 HW.out
        have c2 := cell_keep (hc i hia).2 HW.out
        have d1 := cell_keep (hd i hib).1 HW.out
        have d2 := cell_keep (hd i hib).2 HW.out
        have HT := Lib.hid (take_eq_iff (by rw [LA.out, LB.out]) hia HI.out)
        have HG : Hid (a = b → a[i] = b[i]) := Lib.hid (fun z => by subst z; rfl)
        have i0 : (0 : Int) ≤ (i : Int) := by omega
        have i1 : (i : Int) < (n : Int) := by omega
        clear hc hd
        obtain ⟨s, hs⟩ : ∃ z, a[i] = z := ⟨_, rfl⟩
        obtain ⟨u, hu⟩ : ∃ z, b[i] = z := ⟨_, rfl⟩
        rw [hs] at c1 c2 HT HG
        rw [hu] at d1 d2 HT HG
        obtain ⟨s1, s2⟩ := s
        obtain ⟨u1, u2⟩ := u
        simp only at c1 c2 d1 d2
        clear hs hu
        by_cases e1 : s1 = u1
        · by_cases e2 : s2 = u2
          · subst e1 e2
            have HI2 : Hid (a.take (i + 1) = b.take (i + 1)) := Lib.hid (HT.out.2 rfl)
            have t3 : (s1 == s1) = true := by simp
            have t4 : (s2 == s2) = true := by simp
            go_wp2
            go_quiet (fail)
            go_wp2
            go_roundw
            case rel => exact ⟨i + 1, by omega, by go_num, HI2, Lib.hid (below_drewN HW.out _)⟩
            case measure => simp [intOf]; omega
          · have HF : Hid (false = r) := Lib.hid (by
              cases r
              · rfl
              · have := HG.out (HR.out.1 rfl); simp only [Prod.mk.injEq] at this; exact absurd this.2 e2)
            have t3 : (s2 == u2) = false := by simpa using e2
            subst e1
            clear e2
            go_wp2
            go_quiet (fail)
            go_wp2
            go_returns
            exact ⟨ret_bool HF.out, below_drewN HW.out _⟩
        · have HF : Hid (false = r) := Lib.hid (by
            cases r
            · rfl
            · have := HG.out (HR.out.1 rfl); simp only [Prod.mk.injEq] at this; exact absurd this.1 e1)
          have t3 : (s1 == u1) = false := by simpa using e1
          clear e1
          go_wp2
          go_quiet (fail)
          go_wp2
          go_returns
          exact ⟨ret_bool HF.out, below_drewN HW.out _⟩
      · have HF : Hid (true = r) := Lib.hid (by
          have h := HI.out
          rw [List.take_of_length_le (by rw [LA.out]; omega), List.take_of_length_le (by rw [LB.out]; omega)] at h
          exact (HR.out.2 h).symm)
        go_wp2
        go_returns
        exact ⟨ret_bool HF.out, HW.out⟩
  · have t1 : ((n : Int) != (m : Int)) = true := by simp; omega
    have HF : Hid (false = r) := Lib.hid (by
      cases r
      · rfl
      · have := HR.out.1 rfl; subst this; have := LA.out; have := LB.out; omega)
    clear hnm
    go_enter Try.func34, Try.ntmps34
    go_wp2
    go_returns
    exact ⟨ret_bool HF.out, Below.refl _ _⟩
theorem same_any (ao bo : Option Addr) (n c m d : Nat) (a b : List Sp) (w : World) (ha : SpAt w ao n c a) (hb : SpAt w bo m d b) (r : Bool) (hr : r = true ↔ a = b) :
    Calls Try.prog 14 #[.slice ao n c, .slice bo m d] w fun e w' => e = .returned (.bool r) ∧ Below w.heap.size w w' := by
  have E := Lib.hid (equal_any ao bo n c m d a b w ha hb r hr)
  clear ha hb hr
  go_enter Try.func14, Try.ntmps14
  go_wp2_with (go_at_call 34; (with_reducible refine (E.out).mono ?_); rintro e w1 ⟨rfl, b1⟩)
  go_returns
  exact ⟨rfl, b1⟩
theorem alike_any (ao bo : Option Addr) (n c m d : Nat) (a b : List Sp) (w : World) (ha : SpAt w ao n c a) (hb : SpAt w bo m d b) (r : Bool) (hr : r = true ↔ a = b) :
    Calls Try.prog 22 #[.slice ao n c, .slice bo m d] w fun e w' => e = .returned (.bool r) ∧ Below w.heap.size w w' := by
  have HA := Lib.hid ha
  have HB := Lib.hid hb
  have HR := Lib.hid hr
  have hmx : n ≤ 9223372036854775807 := Nat.le_trans ha.le ha.top
  have LA := Lib.hid ha.len
  have LB := Lib.hid hb.len
  clear ha hb hr
  by_cases hnm : n = m
  · subst hnm
    have t1 : ((n : Int) != (n : Int)) = false := by simp
    go_enter Try.func22, Try.ntmps22
    go_wp2
    go_loopw [14] (fun ii wr => ∃ i : Nat, i ≤ n ∧ ii = .int .i64 i ∧ Hid (a.take i = b.take i) ∧ Hid (Below w.heap.size w wr)) (fun ii _ => n - (intOf ii).toNat)
    case atStart => exact ⟨0, Nat.zero_le _, rfl, Lib.hid rfl, Lib.hid (Below.refl _ _)⟩
    case round =>
      obtain ⟨i, hi, rfl, HI, HW⟩ := hrel
      by_cases ilt : i < n
      · obtain ⟨x, p, rfl, hc⟩ := HA.out.here (by omega)
        obtain ⟨y, q, rfl, hd⟩ := HB.out.here (by omega)
        have hia : i < a.length := by rw [LA.out]; exact ilt
        have hib : i < b.length := by rw [LB.out]; exact ilt
        have c1 := cell_keep (hc i hia).1 HW.out
        have c2 := cell_keep (hc i hia).2 HW.out
        have d1 := cell_keep (hd i hib).1 HW.out
        have d2 := cell_keep (hd i hib).2 HW.out
        have HT := Lib.hid (take_eq_iff (by rw [LA.out, LB.out]) hia HI.out)
        have HG : Hid (a = b → a[i] = b[i]) := Lib.hid (fun z => by subst z; rfl)
        have i0 : (0 : Int) ≤ (i : Int) := by omega
        have i1 : (i : Int) < (n : Int) := by omega
        clear hc hd
        obtain ⟨s, hs⟩ : ∃ z, a[i] = z := ⟨_, rfl⟩
        obtain ⟨u, hu⟩ : ∃ z, b[i] = z := ⟨_, rfl⟩
        rw [hs] at c1 c2 HT HG
        rw [hu] at d1 d2 HT HG
        obtain ⟨s1, s2⟩ := s
        obtain ⟨u1, u2⟩ := u
        simp only at c1 c2 d1 d2
        clear hs hu
        have KA := (Below.refl _ wr).alloc (Nat.le_refl _) (.cells #[.int .i64 s1, .int .i64 s2] 50)
        have HW2 := Lib.hid (HW.out.alloc HW.out.size (.cells #[.int .i64 s1, .int .i64 s2] 50))
        have v1 := (box_cells wr (.int .i64 s1) (.int .i64 s2) 50).1
        have v2 := (box_cells wr (.int .i64 s1) (.int .i64 s2) 50).2
        replace d1 := cell_keep d1 KA
        replace d2 := cell_keep d2 KA
        clear KA
        by_cases e1 : s1 = u1
        · by_cases e2 : s2 = u2
          · subst e1 e2
            have HI2 : Hid (a.take (i + 1) = b.take (i + 1)) := Lib.hid (HT.out.2 rfl)
            have t3 : (s1 == s1) = true := by simp
            have t4 : (s2 == s2) = true := by simp
            go_wp2
            go_quiet (fail)
            go_wp2
            go_roundw
            case rel => exact ⟨i + 1, by omega, by go_num, HI2, Lib.hid (below_drewN HW2.out _)⟩
            case measure => simp [intOf]; omega
          · have HF : Hid (false = r) := Lib.hid (by
              cases r
              · rfl
              · have := HG.out (HR.out.1 rfl); simp only [Prod.mk.injEq] at this; exact absurd this.2 e2)
            have t3 : (u2 == s2) = false := by simp; omega
            have t4 : (s2 == u2) = false := by simpa using e2
            have t5 : (s1 == s1) = true := by simp
            subst e1
            clear e2
            go_wp2
            go_quiet (fail)
            go_wp2
            go_returns
            exact ⟨ret_bool HF.out, below_drewN HW2.out _⟩
        · have HF : Hid (false = r) := Lib.hid (by
            cases r
            · rfl
            · have := HG.out (HR.out.1 rfl); simp only [Prod.mk.injEq] at this; exact absurd this.1 e1)
          have t3 : (u1 == s1) = false := by simp; omega
          have t4 : (s1 == u1) = false := by simpa using e1
          clear e1
          go_wp2
          go_quiet (fail)
          go_wp2
          go_returns
          exact ⟨ret_bool HF.out, below_drewN HW2.out _⟩
      · have HF : Hid (true = r) := Lib.hid (by
          have h := HI.out
          rw [List.take_of_length_le (by rw [LA.out]; omega), List.take_of_length_le (by rw [LB.out]; omega)] at h
          exact (HR.out.2 h).symm)
        go_wp2
        go_returns
        exact ⟨ret_bool HF.out, HW.out⟩
  · have t1 : ((n : Int) != (m : Int)) = true := by simp; omega
    have HF : Hid (false = r) := Lib.hid (by
      cases r
      · rfl
      · have := HR.out.1 rfl; subst this; have := LA.out; have := LB.out; omega)
    clear hnm
    go_enter Try.func22, Try.ntmps22
    go_wp2
    go_returns
    exact ⟨ret_bool HF.out, Below.refl _ _⟩
theorem box_free (w : World) (x y : Value) (t : TypeId) (k : Nat) : (w.alloc (.cells #[x, y] t)).frozen? ⟨w.heap.size, k, none⟩ = false := by
  have h : (w.alloc (.cells #[x, y] t)).heap[w.heap.size]? = some (.cells #[x, y] t) := by
    show (w.heap.push _)[w.heap.size]? = _
    simp
  unfold World.frozen?
  rw [h]
  simp
/-- The hull: its ends, and whether there is one. -/
def hullA (l : List Sp) : Int := (l.getD 0 (0, 0)).1
def hullB (l : List Sp) : Int := (l.getD (l.length - 1) (0, 0)).2
theorem hull_any (ao : Option Addr) (n c : Nat) (l : List Sp) (w : World) (hw : SpAt w ao n c l) :
    Calls Try.prog 86 #[.slice ao n c] w fun e w' => e = .returned (.tuple #[.agg #[.int .i64 (hullA l), .int .i64 (hullB l)], .bool (decide (0 < n))]) ∧ Below w.heap.size w w' := by
  have LN := hw.len
  have hmx : n ≤ 9223372036854775807 := Nat.le_trans hw.le hw.top
  have KA := (Below.refl _ w).alloc (Nat.le_refl _) (.cells #[.int .i64 0, .int .i64 0] 50)
  by_cases h1 : n = 0
  · subst h1
    obtain rfl : l = [] := List.eq_nil_of_length_eq_zero LN
    clear LN hw KA
    go_enter Try.func86, Try.ntmps86
    go_wp2
    exact bodyPost_ret (v := .tuple #[.agg #[.int .i64 0, .int .i64 0], .bool false]) (by simp [results, Try.results86, go_sem]) rfl ⟨rfl, by go_grown⟩
  · obtain ⟨x, p, rfl, hc⟩ := hw.here (by omega)
    have hk : n - 1 < l.length := by omega
    have hm : 0 < l.length := by omega
    have c0 := (hc (n - 1) hk).2
    have d0 := (hc 0 hm).1
    have c1 := cell_keep (hc (n - 1) hk).2 KA
    have d1 := cell_keep (hc 0 hm).1 KA
    have v1 := (box_cells w (.int .i64 0) (.int .i64 0) 50).1
    have v2 := (box_cells w (.int .i64 0) (.int .i64 0) 50).2
    have e1 : hullA l = l[0].1 := by unfold hullA; rw [List.getD_eq_getElem?_getD, List.getElem?_eq_getElem hm]; rfl
    have e2 : hullB l = l[n - 1].2 := by unfold hullB; rw [LN, List.getD_eq_getElem?_getD, List.getElem?_eq_getElem hk]; rfl
    have e3 : decide (0 < n) = true := decide_eq_true (by omega)
    rw [e1, e2, e3]
    obtain ⟨k, hkk⟩ : ∃ k, n - 1 = k := ⟨_, rfl⟩
    have e4 : IntKind.i64.wrap ((n : Int) - 1) = (k : Int) := by rw [IntWalk.i64_in _ (by omega)]; omega
    have k0 : (0 : Int) ≤ (k : Int) := by omega
    have k1 : (k : Int) < (n : Int) := by omega
    have k2 : 0 < n := by omega
    have k3 : (0 : Int) < (n : Int) := by omega
    have t1 : ((n : Int) == 0) = false := by simp; omega
    obtain ⟨X, hX⟩ : ∃ z, l[n - 1].2 = z := ⟨_, rfl⟩
    obtain ⟨Y, hY⟩ : ∃ z, l[0].1 = z := ⟨_, rfl⟩
    rw [hX, hkk] at c1 c0
    rw [hY] at d1 d0
    rw [hX, hY]
    simp only [Nat.zero_mul, Nat.add_zero] at d1 d0
    have HC0 := Lib.hid c0
    have HD0 := Lib.hid d0
    clear c0 d0
    have HBf := Lib.hid KA
    have n1 : w.heap.size ≠ x := World.new_ne w _ (hc 0 hm).1
    clear hX hY hkk hc hw LN h1 hk hm e1 e2 e3 KA
    go_enter Try.func86, Try.ntmps86
    go_wp2
    have f1 := box_free w (.int .i64 0) (.int .i64 0) 50 0
    have f2 := box_free w (.int .i64 0) (.int .i64 0) 50 1
    obtain ⟨w0, hw0⟩ : ∃ q, w.alloc (.cells #[.int .i64 0, .int .i64 0] 50) = q := ⟨_, rfl⟩
    obtain ⟨bx, hbx⟩ : ∃ q, w.heap.size = q := ⟨_, rfl⟩
    rw [hw0] at v1 v2 c1 d1 HBf f1 f2 ⊢
    rw [hbx] at v1 v2 n1 f1 f2 ⊢
    have HBX := Lib.hid hbx
    clear hw0 hbx HC0 HD0
    have HR := Lib.hid ((HBf.out.setCell (p := ⟨bx, 0, none⟩) (Nat.le_of_eq HBX.out) (.int .i64 Y)).setCell (p := ⟨bx, 1, none⟩) (Nat.le_of_eq HBX.out) (.int .i64 X)).drew
    go_region_held3 (fun w' => w'.cell? ⟨x, p + k * 2 + 1, none⟩ = some (.int .i64 X) ∧ w'.cell? ⟨x, p, none⟩ = some (.int .i64 Y)) (go_keep) (fail)
    go_wp2
    exact bodyPost_ret (v := .tuple #[.agg #[.int .i64 Y, .int .i64 X], .bool true]) (by simp [results, Try.results86, go_sem, v1, v2]) rfl ⟨rfl, HR.out⟩
theorem add_off (b p k : Nat) : (⟨b, p, none⟩ : Addr).add k = ⟨b, p + k, none⟩ := by unfold Addr.add; split <;> simp_all
def spCells : List Sp → List Value
  | [] => []
  | s :: r => .int .i64 s.1 :: .int .i64 s.2 :: spCells r
theorem spCells_length : ∀ l : List Sp, (spCells l).length = l.length * 2
  | [] => rfl
  | s :: r => by simp [spCells, spCells_length r]; omega
theorem spCells_snoc : ∀ (l : List Sp) (s : Sp), spCells (l ++ [s]) = spCells l ++ [.int .i64 s.1, .int .i64 s.2]
  | [], s => rfl
  | x :: r, s => by simp [spCells, spCells_snoc r]
theorem spCells_at : ∀ (l : List Sp) (i : Nat) (h : i < l.length), (spCells l)[i * 2]? = some (.int .i64 l[i].1) ∧ (spCells l)[i * 2 + 1]? = some (.int .i64 l[i].2)
  | s :: r, 0, h => ⟨rfl, rfl⟩
  | s :: r, i + 1, h => by
    have := spCells_at r i (by simpa using h)
    rw [show (i + 1) * 2 = i * 2 + 1 + 1 by omega]
    simpa [spCells] using this
theorem spCells_one : ∀ (l : List Sp), ∀ u ∈ spCells l, u.oneCell' = true
  | [], u, h => by cases h
  | s :: r, u, h => by
    simp only [spCells, List.mem_cons] at h
    rcases h with rfl | rfl | h
    · rfl
    · rfl
    · exact spCells_one r u h
theorem keepB {w w' : World} {B e s n : Nat} {v : Value} {xs : List Value} (h : w.ownsRow B e s v n xs) (b : Below w.heap.size w w') : w'.ownsRow B e s v n xs := by
  obtain ⟨h1, h2⟩ := h
  refine ⟨h1, ?_⟩
  rcases h2 with h2 | ⟨g, cap, cur, e1, e2, e3, e4⟩
  · exact .inl h2
  · have lt : g < w.heap.size := (Array.getElem?_eq_some_iff.1 e3).1
    exact .inr ⟨g, cap, cur, e1, e2, (b.block g lt).trans e3, e4⟩
/-- A slice of the call's own that reads as spans. -/
theorem own_sp {w : World} {B n : Nat} {v : Value} {l : List Sp} (hl : l.length = n) (h : w.ownsRow B 50 2 v n (spCells l)) : ∃ ao c, v = .slice ao n c ∧ SpAt w ao n c l := by
  have hc := h
  rcases h.2 with ⟨rfl, rfl⟩ | ⟨g, cap, cur, rfl, h2, h3, h4, h5, h6⟩
  · obtain rfl : l = [] := List.eq_nil_of_length_eq_zero hl
    exact ⟨none, 0, rfl, SpAt.nil w⟩
  · refine ⟨some ⟨g, 0, none⟩, cap, rfl, hl, h4, by unfold maxLen at h5; omega, (by intro e; cases e), fun _ => ⟨g, 0, rfl, fun i hi => ?_⟩⟩
    have e := spCells_at l i hi
    have z1 := hc.cells (g := g) rfl (i * 2) _ e.1
    have z2 := hc.cells (g := g) rfl (i * 2 + 1) _ e.2
    rw [add_off] at z1 z2
    exact ⟨z1, by rw [Nat.add_assoc]; exact z2⟩
theorem info50 : (Try.prog.info? 50).map (fun i => (i.zero, i.size, i.bytes)) = some (some (.agg #[.int .i64 0, .int .i64 0]), 2, 16) := by kernel_rfl
theorem cells_new2 (w : World) (x y : Value) (t : TypeId) : ∀ (j : Nat) (u : Value), [x, y][j]? = some u → (w.alloc (.cells #[x, y] t)).cell? ((⟨w.heap.size, 0, none⟩ : Addr).add j) = some u := by
  intro j u hu
  rw [add_off, Nat.zero_add]
  match j with
  | 0 => cases hu; exact (box_cells w x y t).1
  | 1 => cases hu; exact (box_cells w x y t).2
  | j + 2 => simp at hu
/-- Numbers as spans. -/
def ofL (f : Nat → Int) : Nat → List Sp
  | 0 => []
  | m + 1 => ofL f m ++ [(f (2 * m), f (2 * m + 1))]
theorem ofL_length (f : Nat → Int) : ∀ m, (ofL f m).length = m
  | 0 => rfl
  | m + 1 => by simp [ofL, ofL_length f m]
theorem mem_take_succ {a : List Sp} {i : Nat} (h : i < a.length) {s : Sp} : s ∈ a.take (i + 1) ↔ s ∈ a.take i ∨ s = a[i] := by
  rw [List.take_succ_eq_append_getElem h, List.mem_append, List.mem_singleton]
theorem sp_all {w : World} {b p n c : Nat} {l : List Sp} (h : SpAt w (some ⟨b, p, none⟩) n c l) (h0 : 0 < n) : ∀ j u, (spCells l)[j]? = some u → w.cell? ((⟨b, p, none⟩ : Addr).add j) = some u := by
  intro j u hu
  obtain ⟨b', p', e, hc⟩ := h.here h0
  cases e
  have hj : j < (spCells l).length := (List.getElem?_eq_some_iff.1 hu).1
  rw [spCells_length] at hj
  have hi : j / 2 < l.length := by omega
  have q := spCells_at l (j / 2) hi
  rw [add_off]
  rcases Nat.mod_two_eq_zero_or_one j with e | e
  · have e2 : j / 2 * 2 = j := by omega
    rw [e2] at q
    rw [q.1] at hu; cases hu
    have := (hc (j / 2) hi).1
    rwa [e2] at this
  · have e2 : j / 2 * 2 + 1 = j := by omega
    rw [e2] at q
    rw [q.2] at hu; cases hu
    have := (hc (j / 2) hi).2
    rw [Nat.add_assoc, e2] at this
    exact this
theorem sp_all' {w : World} {a : Addr} {n c : Nat} {l : List Sp} (h : SpAt w (some a) n c l) : ∀ j u, (spCells l)[j]? = some u → w.cell? (a.add j) = some u := by
  intro j u hu
  have h0 : 0 < n := by
    have hj : j < (spCells l).length := (List.getElem?_eq_some_iff.1 hu).1
    rw [spCells_length] at hj
    have := h.len
    omega
  obtain ⟨b, p, e, _⟩ := h.here h0
  cases e
  exact sp_all h h0 j u hu
set_option maxHeartbeats 1000000 in
theorem clone_any (ao : Option Addr) (n c : Nat) (l : List Sp) (hn : n ≤ 1000000) (w : World) (hl : SpAt w ao n c l) :
    Calls Try.prog 40 #[.slice ao n c] w fun e w' => ∃ v, e = .returned v ∧ w'.ownsRow w.heap.size 50 2 v n (spCells l) ∧ Below w.heap.size w w' := by
  obtain ⟨i0, hi, hz0, hz1, hz2⟩ := info_parts info50
  have q22 : ∀ (w : World) (a : Option Addr) (n c n' c' : Nat), (binOp .eql 34 (.slice a n c) (.slice none n' c')).run Try.prog w = .ok (.bool a.isNone) w := fun w a n c n' c' => Lib.run_eql_slice_nil w _ _ a n c n' c' Try.underlying34
  have LN := hl.len
  cases ao with
  | none =>
    obtain ⟨rfl, rfl⟩ := hl.bare rfl
    obtain rfl : l = [] := List.eq_nil_of_length_eq_zero (by omega)
    clear hl
    go_enter Try.func40, Try.ntmps40
    go_wp2
    go_ret
    exact ⟨_, rfl, World.ownsRow_nil _ _ _ _, Below.refl _ _⟩
  | some a =>
    have HN := Lib.hid (sp_all' hl)
    clear hl
    go_enter Try.func40, Try.ntmps40
    go_wp2_with (at_builtin; refine wpList_append_own _ rfl _ _ 34 rfl w.heap.size 50 i0 (.agg #[.int .i64 0, .int .i64 0]) 2 16 Try.underlying34 hi hz0 hz1 hz2 rfl (by decide) _ _ _ rfl (World.ownsRow_made w #[] 0 (Nat.le_refl _) (Nat.zero_le _) rfl) a n c (spCells l) rfl ?qc1 ?qc2 ?qc3 ?qc4 ?qc5 ?qc6 ?_)
    case qc1 => rw [spCells_length, LN]
    case qc2 => intro j u hj; exact Lib.cell?_alloc_some _ (HN.out j u hj)
    case qc3 => exact spCells_one l
    case qc4 => unfold maxLen; omega
    case qc5 => omega
    case qc6 => simp
    intro v' w1 hown hgrow hnil
    go_wp2
    go_ret
    exact ⟨v', rfl, by simpa using hown, ((Below.refl _ w).alloc (Nat.le_refl _) _).grown hgrow (by simp) (by intro k hk; simp [Value.ownBlock] at hk; omega)⟩
theorem add_ok (a b : Int) (w : World) (ha1 : -9223372036854775808 ≤ a) (ha2 : a ≤ 9223372036854775807) (hb1 : -9223372036854775808 ≤ b) (hb2 : b ≤ 9223372036854775807)
    (h1 : -9223372036854775808 ≤ a + b) (h2 : a + b ≤ 9223372036854775807) :
    Calls Try.prog 76 #[.int .i64 a, .int .i64 b] w fun e w' => e = .returned (.tuple #[.int .i64 (a + b), .int .i64 0]) ∧ w = w' := by
  go_each [a < 0, b < 0, a + b < 0] => (go_enter Try.func76, Try.ntmps76; go_wp2; go_ret2; exact ⟨rfl, rfl⟩)
theorem add_over (a b : Int) (w : World) (ha1 : -9223372036854775808 ≤ a) (ha2 : a ≤ 9223372036854775807) (hb1 : -9223372036854775808 ≤ b) (hb2 : b ≤ 9223372036854775807)
    (h : a + b < -9223372036854775808 ∨ 9223372036854775807 < a + b) :
    Calls Try.prog 76 #[.int .i64 a, .int .i64 b] w fun e w' => e = .returned (.tuple #[.int .i64 0, .int .i64 10]) ∧ w = w' := by
  rcases h with h | h
  · have ca : a < 0 := by omega
    have cb : b < 0 := by omega
    have cs : ¬ wrap64 (a + b) < 0 := by unfold wrap64; omega
    go_enter Try.func76, Try.ntmps76
    go_wp2
    go_ret2
    exact ⟨rfl, rfl⟩
  · have ca : ¬ a < 0 := by omega
    have cb : ¬ b < 0 := by omega
    have cs : wrap64 (a + b) < 0 := by unfold wrap64; omega
    go_enter Try.func76, Try.ntmps76
    go_wp2
    go_ret2
    exact ⟨rfl, rfl⟩
/-- The sum, and whether it is one. -/
def sumB (a b : Int) : Bool := decide (-9223372036854775808 ≤ a + b) && decide (a + b ≤ 9223372036854775807)
theorem add_any (a b : Int) (w : World) (ha1 : -9223372036854775808 ≤ a) (ha2 : a ≤ 9223372036854775807) (hb1 : -9223372036854775808 ≤ b) (hb2 : b ≤ 9223372036854775807) :
    Calls Try.prog 76 #[.int .i64 a, .int .i64 b] w fun e w' => ∃ x c : Int, e = .returned (.tuple #[.int .i64 x, .int .i64 c]) ∧ (((x = a + b ∧ c = 0) ∧ sumB a b = true) ∨ ((x = 0 ∧ c = 10) ∧ sumB a b = false)) ∧ w = w' := by
  by_cases h : -9223372036854775808 ≤ a + b ∧ a + b ≤ 9223372036854775807
  · exact (add_ok a b w ha1 ha2 hb1 hb2 h.1 h.2).mono fun e w' ⟨e1, e2⟩ => ⟨_, _, e1, .inl ⟨⟨rfl, rfl⟩, by simp [sumB]; exact h⟩, e2⟩
  · exact (add_over a b w ha1 ha2 hb1 hb2 (by omega)).mono fun e w' ⟨e1, e2⟩ => ⟨_, _, e1, .inr ⟨⟨rfl, rfl⟩, by simp [sumB]; omega⟩, e2⟩
def moved (l : List Sp) (d : Int) : List Sp := l.map fun s => (s.1 + d, s.2 + d)
def okSp (d : Int) (s : Sp) : Prop := (-1099511627776 ≤ s.1 + d ∧ s.1 + d ≤ 1099511627776) ∧ -1099511627776 ≤ s.2 + d ∧ s.2 + d ≤ 1099511627776
theorem moved_length (l : List Sp) (d : Int) : (moved l d).length = l.length := by simp [moved]
theorem moved_cells (l : List Sp) (d : Int) (i : Nat) (h : i < l.length) : (spCells (moved l d))[2 * i]? = some (.int .i64 (l[i].1 + d)) ∧ (spCells (moved l d))[2 * i + 1]? = some (.int .i64 (l[i].2 + d)) := by
  have q := spCells_at (moved l d) i (by rw [moved_length]; exact h)
  have e : (moved l d)[i]'(by rw [moved_length]; exact h) = (l[i].1 + d, l[i].2 + d) := by simp [moved]
  rw [e, Nat.mul_comm] at q
  exact q
theorem set_cells (xs ys : List Value) (k : Nat) (u v : Value) (hx : k + 1 < xs.length) (h : ∀ j, j < k → xs[j]? = ys[j]?) (hu : ys[k]? = some u) (hv : ys[k + 1]? = some v) : ∀ j, j < k + 2 → ((xs.set k u).set (k + 1) v)[j]? = ys[j]? := by
  intro j hj
  rw [List.getElem?_set, List.getElem?_set]
  by_cases e1 : k + 1 = j
  · subst e1; simp [hx, hv]
  · by_cases e2 : k = j
    · subst e2; simp [hu, show k < xs.length by omega]
    · simp [e1, e2]; exact h j (by omega)
theorem store_sp {w : World} {B g n cap i : Nat} {xs : List Value} (hq : w.ownsRow B 50 2 (.slice (some ⟨g, 0, none⟩) n cap) n xs) (hi : i < n) (u v : Value) (o : Nat) (ho : o = 2 * i) :
    w.there g o 2 ∧ (w.setCells g o [u, v]).ownsRow B 50 2 (.slice (some ⟨g, 0, none⟩) n cap) n ((xs.set o u).set (o + 1) v) := by
  refine ⟨fun j hj => ⟨?_, hq.frozenAt _⟩, ((hq.stored o u).1.stored (o + 1) v).1⟩
  have hl := hq.1
  rw [hq.cellAt (o + j) (by omega), List.getElem?_eq_getElem (by omega)]; rfl
theorem two_cells (a b : Int) : (#[Value.int .i64 a, Value.int .i64 b].all fun x => x.oneCell') = true := by simp [Value.oneCell']
theorem below_cells {B : Nat} {a w : World} (h : Below B a w) {g : Nat} (hg : B ≤ g) (o : Nat) (u v : Value) : Below B a (w.setCells g o [u, v]) :=
  (h.setCell (p := ⟨g, o, none⟩) hg u).setCell (p := ⟨g, o + 1, none⟩) hg v
set_option maxHeartbeats 2000000 in
theorem move_any (ao : Option Addr) (n c : Nat) (l : List Sp) (ga : Good l) (hn : n ≤ 1000000) (d : Int) (hd1 : -9223372036854775808 ≤ d) (hd2 : d ≤ 9223372036854775807) (w : World) (hl : SpAt w ao n c l) :
    Calls Try.prog 54 #[.slice ao n c, .int .i64 d] w fun e w' => ∃ (v : Value) (k : Int), e = .returned (.tuple #[v, .int .i64 k]) ∧ Below w.heap.size w w' ∧
      (((∀ s ∈ l, okSp d s) ∧ k = 0 ∧ w'.ownsRow w.heap.size 50 2 v n (spCells (moved l d))) ∨ ((∃ s ∈ l, ¬ okSp d s) ∧ k = 20 ∧ v = .slice none 0 0)) := by
  obtain ⟨i0, hi, hz0, hz1, hz2⟩ := info_parts info50
  have LN := hl.len
  by_cases h0 : n = 0
  · obtain rfl : l = [] := List.eq_nil_of_length_eq_zero (by omega)
    have t1 : ((n : Int) == 0) = true := by simp; omega
    have hz : n = 0 := h0
    clear hl LN h0
    go_enter Try.func54, Try.ntmps54
    go_wp2
    go_returns
    exact ⟨_, _, rfl, Below.refl _ _, .inl ⟨(fun s h => by cases h), rfl, (by subst hz; exact World.ownsRow_nil _ _ _ _)⟩⟩
  · have t1 : ((n : Int) == 0) = false := by simp; omega
    have HL := Lib.hid hl
    have HG := Lib.hid ga
    have HLN := Lib.hid LN
    have HI := Lib.hid hi
    have HZ1 := Lib.hid hz1
    clear hl ga LN
    go_enter Try.func54, Try.ntmps54
    go_wp2_with (at_make; refine wpList_make_full _ rfl _ _ 34 rfl w.heap.size 50 i0 (.agg #[.int .i64 0, .int .i64 0]) 2 Try.underlying34 hi hz0 hz1 .i64 .i64 _ _ n rfl rfl rfl rfl (by rw [hz2]; omega) (by unfold maxLen; omega) (Nat.le_refl _) ?_; intro w1 hown hgrow; have HO := Lib.hid hown; have HB := Lib.hid ((Below.refl _ w).grown hgrow (Nat.le_refl _) (by intro k hk; cases hk)); clear hown hgrow)
    obtain ⟨g, hg⟩ : ∃ g, w.heap.size = g := ⟨_, rfl⟩
    have HO2 := HO.out
    rw [hg] at HO2
    have HO' : Hid (∃ xs, w1.ownsRow w.heap.size 50 2 (.slice (some ⟨g, 0, none⟩) n n) n xs ∧ ∀ j, j < 2 * 0 → xs[j]? = (spCells (moved l d))[j]?) := Lib.hid ⟨_, by rw [hg]; exact HO2, fun j hj => by omega⟩
    rw [hg]
    clear HO HO2 hi hz0 hz1 hz2
    go_wp2
    go_loopw [21] (fun ii wr => ∃ i : Nat, i ≤ n ∧ ii = .int .i64 i ∧ Hid (∃ xs, wr.ownsRow w.heap.size 50 2 (.slice (some ⟨g, 0, none⟩) n n) n xs ∧ ∀ j, j < 2 * i → xs[j]? = (spCells (moved l d))[j]?) ∧ Hid (∀ s ∈ l.take i, okSp d s) ∧ Hid (Below w.heap.size w wr)) (fun ii _ => n - (intOf ii).toNat)
    case atStart => exact ⟨0, Nat.zero_le _, rfl, HO', Lib.hid (fun s h => by cases h), HB⟩
    case round =>
      obtain ⟨i, hi, rfl, HX, HS, HW⟩ := hrel
      by_cases ilt : i < n
      · obtain ⟨b, p, rfl, hc⟩ := HL.out.here (by omega)
        have hil : i < l.length := by rw [HLN.out]; exact ilt
        have c1 := cell_keep (hc i hil).1 HW.out
        have c2 := cell_keep (hc i hil).2 HW.out
        have g1 := good_at HG.out i hil
        have HT := Lib.hid (fun s => mem_take_succ (s := s) hil)
        have HM := Lib.hid (List.getElem_mem hil)
        have HGT := Lib.hid (moved_cells l d i hil)
        have i0' : (0 : Int) ≤ (i : Int) := by omega
        have i1' : (i : Int) < (n : Int) := by omega
        clear hc
        obtain ⟨s, hs⟩ : ∃ z, l[i] = z := ⟨_, rfl⟩
        rw [hs] at c1 c2 g1 HT HM HGT
        have HIL := Lib.hid hil
        clear hs hil
        obtain ⟨x, y⟩ := s
        simp only at c1 c2 g1
        have E1 := Lib.hid (fun w => add_any x d w (by omega) (by omega) (by omega) (by omega))
        have E2 := Lib.hid (fun w => add_any y d w (by omega) (by omega) (by omega) (by omega))
        have KA := Lib.hid ((Below.refl _ wr).alloc (Nat.le_refl _) (.cells #[.int .i64 x, .int .i64 y] 50))
        have b1 := (box_cells wr (.int .i64 x) (.int .i64 y) 50).1
        have b2 := (box_cells wr (.int .i64 x) (.int .i64 y) 50).2
        go_upto_region 9 with (first
          | (go_at_call 76; with_reducible refine (E1.out _).mono ?_; rintro e w1 ⟨x1, k1, rfl, F1, rfl⟩)
          | (go_at_call 76; with_reducible refine (E2.out _).mono ?_; rintro e w1 ⟨x2, k2, rfl, F2, rfl⟩))
        have T1 := Lib.hid (fun (w : World) => tick_any (x + d) w)
        have T2 := Lib.hid (fun (w : World) => tick_any (y + d) w)
        have HW2 := Lib.hid (HW.out.trans (KA.out.mono HW.out.size))
        clear E1 E2
        rcases F1 with ⟨⟨rfl, rfl⟩, s1⟩ | ⟨⟨rfl, rfl⟩, s1⟩
        · rcases F2 with ⟨⟨rfl, rfl⟩, s2⟩ | ⟨⟨rfl, rfl⟩, s2⟩
          · cases h1 : tickB (x + d)
            · have HNO : Hid (¬ okSp d (x, y)) := Lib.hid (fun q => by have := (tickB_iff (x + d)).2 q.1; rw [h1] at this; cases this)
              rw [h1] at T1
              clear h1
              go_wp2_with (go_at_call 77; with_reducible refine (T1.out _).mono ?_; rintro e w3 ⟨rfl, rfl⟩)
              go_returns
              exact ⟨_, _, rfl, HW2.out, .inr ⟨⟨_, HM.out, HNO.out⟩, rfl, rfl⟩⟩
            · cases h2 : tickB (y + d)
              · have HNO : Hid (¬ okSp d (x, y)) := Lib.hid (fun q => by have := (tickB_iff (y + d)).2 q.2; rw [h2] at this; cases this)
                rw [h1] at T1
                rw [h2] at T2
                clear h1 h2
                go_wp2_with (first | (go_at_call 77; with_reducible refine (T1.out _).mono ?_; rintro e w3 ⟨rfl, rfl⟩) | (go_at_call 77; with_reducible refine (T2.out _).mono ?_; rintro e w4 ⟨rfl, rfl⟩))
                go_returns
                exact ⟨_, _, rfl, HW2.out, .inr ⟨⟨_, HM.out, HNO.out⟩, rfl, rfl⟩⟩
              · have HOK : Hid (okSp d (x, y)) := Lib.hid ⟨(tickB_iff _).1 h1, (tickB_iff _).1 h2⟩
                rw [h1] at T1
                rw [h2] at T2
                clear h1 h2
                obtain ⟨xs, q1, q2⟩ := HX.out
                have Q1 := Lib.hid (keepB q1 KA.out)
                have Q2 := Lib.hid q2
                clear q1 q2
                have hg' : w.heap.size ≤ g := by omega
                have eo : i * 2 = 2 * i := by omega
                have HS2 : Hid (∀ s ∈ l.take (i + 1), okSp d s) := Lib.hid (fun s hs => by
                  rcases (HT.out s).1 hs with g | rfl
                  · exact HS.out s g
                  · exact HOK.out)
                go_wp2_with (first
                  | (go_at_call 77; with_reducible refine (T1.out _).mono ?_; rintro e w3 ⟨rfl, rfl⟩)
                  | (go_at_call 77; with_reducible refine (T2.out _).mono ?_; rintro e w4 ⟨rfl, rfl⟩)
                  | (refine wpList_store_mid rfl 50 _ _ rfl g _ #[.int .i64 (x + d), .int .i64 (y + d)] rfl rfl (store_sp (i := i) Q1.out ilt (.int .i64 (x + d)) (.int .i64 (y + d)) _ (by omega)).1 (by kernel_rfl) (two_cells _ _) ?_
                     have HR := Lib.hid (store_sp (i := i) Q1.out ilt (.int .i64 (x + d)) (.int .i64 (y + d)) (2 * i) rfl).2
                     have HB2 := Lib.hid (below_cells HW2.out hg' (2 * i) (.int .i64 (x + d)) (.int .i64 (y + d)))))
                go_roundw
                case rel =>
                  refine ⟨i + 1, by omega, by go_num, Lib.hid ⟨_, HR.out, ?_⟩, HS2, HB2⟩
                  have q3 := set_cells xs (spCells (moved l d)) (2 * i) (.int .i64 (x + d)) (.int .i64 (y + d)) (by have := Q1.out.1; omega) (fun j hj => Q2.out j (by omega)) HGT.out.1 HGT.out.2
                  exact fun j hj => q3 j (by omega)
                case measure => simp [intOf]; omega
          · have HNO : Hid (¬ okSp d (x, y)) := Lib.hid (fun q => by simp [sumB, okSp] at s2 q; omega)
            cases h1 : tickB (x + d)
            all_goals
              rw [h1] at T1
              clear h1
              go_wp2_with (go_at_call 77; with_reducible refine (T1.out _).mono ?_; rintro e w3 ⟨rfl, rfl⟩)
              go_returns
              exact ⟨_, _, rfl, HW2.out, .inr ⟨⟨_, HM.out, HNO.out⟩, rfl, rfl⟩⟩
        · have HNO : Hid (¬ okSp d (x, y)) := Lib.hid (fun q => by simp [sumB, okSp] at s1 q; omega)
          go_wp2
          go_returns
          exact ⟨_, _, rfl, HW2.out, .inr ⟨⟨_, HM.out, HNO.out⟩, rfl, rfl⟩⟩
      · obtain rfl : i = n := by omega
        have HF := Lib.hid HS.out
        go_wp2
        go_returns
        obtain ⟨xs, q1, q2⟩ := HX.out
        refine ⟨_, _, rfl, HW.out, .inl ⟨fun s hs => HF.out s (by rw [List.take_of_length_le (by rw [HLN.out]; exact Nat.le_refl _)]; exact hs), rfl, ?_⟩⟩
        have e : xs = spCells (moved l d) := by
          apply List.ext_getElem?
          intro j
          by_cases hj : j < 2 * i
          · exact q2 j hj
          · have e1 := q1.1
            rw [List.getElem?_eq_none (by omega), List.getElem?_eq_none (by rw [spCells_length, moved_length, HLN.out]; omega)]
        rw [← e]; exact q1
/-- What has been joined, of what went before. -/
structure Joined (P r : List Sp) : Prop where
  good : Good r
  same : ∀ t, mem r t ↔ mem P t
  len : r.length ≤ P.length
  starts : ∀ x ∈ r, ∃ y ∈ P, y.1 = x.1
def TkSp (s : Sp) : Prop := (-1099511627776 ≤ s.1 ∧ s.1 ≤ 1099511627776) ∧ -1099511627776 ≤ s.2 ∧ s.2 ≤ 1099511627776
theorem joined_nil : Joined [] [] := ⟨trivial, fun t => Iff.rfl, Nat.le_refl _, fun x h => by cases h⟩
theorem mem_one (s : Sp) (t : Int) : mem [s] t ↔ s.1 ≤ t ∧ t ≤ s.2 := by rw [mem_cons]; simp [mem_nil]
theorem joined_push {P r : List Sp} (h : Joined P r) (s : Sp) (hs : s.1 ≤ s.2) (ht : TkSp s) (hc : r ≠ [] → ∀ r0 x, r = r0 ++ [x] → x.2 + 1 < s.1) : Joined (P ++ [s]) (r ++ [s]) := by
  refine ⟨(rt_snoc r _ s).2 ⟨h.good, ?_, hs, ht.2.2⟩, fun t => by rw [mem_append, mem_append, h.same], by simp; exact h.len, fun x hx => ?_⟩
  · by_cases e : r = []
    · subst e; exact ht.1.1
    · obtain ⟨x, r0, e2⟩ : ∃ x r0, r = r0 ++ [x] := ⟨r.getLast e, r.dropLast, (List.dropLast_concat_getLast e).symm⟩
      have := hc e r0 x e2
      rw [e2, nxt_snoc]; omega
  · rcases List.mem_append.1 hx with g | g
    · obtain ⟨y, hy, e⟩ := h.starts x g; exact ⟨y, List.mem_append_left _ hy, e⟩
    · have e := List.mem_singleton.1 g
      exact ⟨s, by simp, by rw [e]⟩
theorem joined_grow {P r0 : List Sp} {x : Sp} (h : Joined P (r0 ++ [x])) (s : Sp) (hs : s.1 ≤ s.2) (ht : TkSp s) (hx : x.1 ≤ s.1) (hc : s.1 ≤ x.2 + 1) (m : Int) (hm : m = max x.2 s.2) : Joined (P ++ [s]) (r0 ++ [(x.1, m)]) := by
  obtain ⟨a, b, c, d⟩ := (rt_snoc r0 _ x).1 h.good
  refine ⟨(rt_snoc r0 _ _).2 ⟨a, b, ?_, ?_⟩, fun t => ?_, ?_, fun y hy => ?_⟩
  · show x.1 ≤ m; omega
  · show m ≤ _; have := ht.2.2; omega
  · rw [mem_append, mem_append, ← h.same, mem_append, mem_one, mem_one, mem_one]
    show _ ∨ (x.1 ≤ t ∧ t ≤ m) ↔ _
    constructor
    · rintro (g | ⟨g1, g2⟩)
      · exact .inl (.inl g)
      · by_cases q : t ≤ x.2
        · exact .inl (.inr ⟨g1, q⟩)
        · exact .inr ⟨by omega, by omega⟩
    · rintro ((g | g) | g)
      · exact .inl g
      · exact .inr ⟨g.1, by omega⟩
      · exact .inr ⟨by omega, by omega⟩
  · have := h.len; simp at this ⊢; omega
  · rcases List.mem_append.1 hy with g | g
    · obtain ⟨z, hz, e⟩ := h.starts y (List.mem_append_left _ g); exact ⟨z, List.mem_append_left _ hz, e⟩
    · obtain ⟨z, hz, e⟩ := h.starts x (by simp)
      have e2 := List.mem_singleton.1 g
      exact ⟨z, List.mem_append_left _ hz, by rw [e2]; exact e⟩
abbrev Ahd (a b : List Sp) : Prop := ∀ s ∈ a, ∀ u ∈ b, s.2 < u.1
theorem ahd_trans {a b c : List Sp} (gb : Good b) (h : b ≠ []) (h1 : Ahd a b) (h2 : Ahd b c) : Ahd a c := by
  intro s hs u hu
  obtain ⟨x, r, rfl⟩ := List.exists_cons_of_ne_nil h
  have q1 := h1 s hs x (by simp)
  have q2 := h2 x (by simp) u hu
  have := gb.2.1
  omega
theorem ahd_meet {a b : List Sp} (h : Ahd a b) : ¬ ∃ t, mem a t ∧ mem b t := by
  rintro ⟨t, ⟨s, hs, x1, x2⟩, u, hu, y1, y2⟩
  have := h s hs u hu
  omega
theorem ahd_self {a : List Sp} (ga : Good a) (h : a ≠ []) : ¬ Ahd a a := by
  intro q
  obtain ⟨x, r, rfl⟩ := List.exists_cons_of_ne_nil h
  have := q x (by simp) x (by simp)
  have := ga.2.1
  omega
theorem ahd_hull {a b : List Sp} (ga : Good a) (gb : Good b) (ha : a ≠ []) (hb : b ≠ []) : Ahd a b ↔ hullB a < hullA b := by
  have la : 0 < a.length := List.length_pos_iff.2 ha
  have lb : 0 < b.length := List.length_pos_iff.2 hb
  have e1 : hullB a = (a[a.length - 1]'(by omega)).2 := by unfold hullB; rw [List.getD_eq_getElem?_getD, List.getElem?_eq_getElem (by omega)]; rfl
  have e2 : hullA b = (b[0]'lb).1 := by unfold hullA; rw [List.getD_eq_getElem?_getD, List.getElem?_eq_getElem (by omega)]; rfl
  rw [e1, e2]
  constructor
  · intro h; exact h _ (List.getElem_mem _) _ (List.getElem_mem _)
  · intro h s hs u hu
    obtain ⟨i, hi, rfl⟩ := List.getElem_of_mem hs
    obtain ⟨j, hj, rfl⟩ := List.getElem_of_mem hu
    have q1 := good_le ga i (a.length - 1) hi (by omega) (by omega)
    have q2 : (b[0]'lb).1 ≤ b[j].1 := by
      by_cases w : j = 0
      · subst w; exact Int.le_refl _
      · have := good_lt gb 0 j lb hj (by omega)
        have := good_at gb 0 lb
        omega
    omega
theorem hull_mem {a : List Sp} (ga : Good a) (ha : a ≠ []) : mem a (hullA a) ∧ mem a (hullB a) ∧ ¬ mem a (hullA a - 1) ∧ ¬ mem a (hullB a + 1) ∧ -1099511627776 ≤ hullA a ∧ hullA a ≤ 1099511627776 ∧ -1099511627776 ≤ hullB a ∧ hullB a ≤ 1099511627776 := by
  have la : 0 < a.length := List.length_pos_iff.2 ha
  have e1 : hullB a = (a[a.length - 1]'(by omega)).2 := by unfold hullB; rw [List.getD_eq_getElem?_getD, List.getElem?_eq_getElem (by omega)]; rfl
  have e2 : hullA a = (a[0]'la).1 := by unfold hullA; rw [List.getD_eq_getElem?_getD, List.getElem?_eq_getElem (by omega)]; rfl
  have g0 := good_at ga 0 la
  have g1 := good_at ga (a.length - 1) (by omega)
  rw [e1, e2]
  refine ⟨⟨_, List.getElem_mem _, Int.le_refl _, g0.2.1⟩, ⟨_, List.getElem_mem (by omega), g1.2.1, Int.le_refl _⟩, ?_, ?_, by omega, by omega, by omega, by omega⟩
  · rintro ⟨s, hs, x, y⟩
    obtain ⟨i, hi, rfl⟩ := List.getElem_of_mem hs
    by_cases w : i = 0
    · subst w; omega
    · have := good_lt ga 0 i la hi (by omega)
      omega
  · rintro ⟨s, hs, x, y⟩
    obtain ⟨i, hi, rfl⟩ := List.getElem_of_mem hs
    have := good_le ga i (a.length - 1) hi (by omega) (by omega)
    omega
/-- What SpansAhead has laid. -/
structure Th (w0 w : World) (ao bo co : Option Addr) (n1 n2 n3 c1 c2 c3 : Nat) (a b c : List Sp) (bx by' : Nat) (x1 y1 x2 y2 : Int) : Prop where
  pa : SpAt w ao n1 c1 a
  pb : SpAt w bo n2 c2 b
  pc : SpAt w co n3 c3 c
  f1 : w.cell? ⟨bx, 0, none⟩ = some (.int .i64 x1)
  f2 : w.cell? ⟨bx, 1, none⟩ = some (.int .i64 y1)
  f3 : w.cell? ⟨by', 0, none⟩ = some (.int .i64 x2)
  f4 : w.cell? ⟨by', 1, none⟩ = some (.int .i64 y2)
  bw : Below w0.heap.size w0 w
theorem Th.keep {w0 w w' : World} {ao bo co : Option Addr} {n1 n2 n3 c1 c2 c3 : Nat} {a b c : List Sp} {bx by' : Nat} {x1 y1 x2 y2 : Int} (h : Th w0 w ao bo co n1 n2 n3 c1 c2 c3 a b c bx by' x1 y1 x2 y2) (k : Below w.heap.size w w') : Th w0 w' ao bo co n1 n2 n3 c1 c2 c3 a b c bx by' x1 y1 x2 y2 :=
  ⟨h.pa.keep k, h.pb.keep k, h.pc.keep k, cell_keep h.f1 k, cell_keep h.f2 k, cell_keep h.f3 k, cell_keep h.f4 k, h.bw.trans (k.mono h.bw.size)⟩
theorem hull_v (ao : Option Addr) (n c : Nat) (l : List Sp) (w : World) (hw : SpAt w ao n c l) :
    Calls Try.prog 86 #[.slice ao n c] w fun e w' => ∃ (x y : Int) (ok : Bool), e = .returned (.tuple #[.agg #[.int .i64 x, .int .i64 y], .bool ok]) ∧ Hid (x = hullA l ∧ y = hullB l ∧ ok = decide (0 < n)) ∧ Below w.heap.size w w' :=
  (hull_any ao n c l w hw).mono fun e w' ⟨h1, h2⟩ => ⟨_, _, _, h1, Lib.hid ⟨rfl, rfl, rfl⟩, h2⟩
theorem moved_nil (d : Int) : moved [] d = [] := rfl
theorem moved_cons (s : Sp) (r : List Sp) (d : Int) : moved (s :: r) d = (s.1 + d, s.2 + d) :: moved r d := rfl
theorem rt_moved : ∀ {l : List Sp} {lo : Int} (d : Int), Rt lo l → (∀ s ∈ l, okSp d s) → Rt (lo + d) (moved l d)
  | [], _, _, _, _ => trivial
  | s :: r, lo, d, ⟨a, b, c, e⟩, h => by
    rw [moved_cons]
    have h0 := h s (List.mem_cons_self ..)
    have := rt_moved d e (fun x hx => h x (List.mem_cons_of_mem _ hx))
    unfold okSp at h0
    refine ⟨by simp only; omega, by simp only; omega, by simp only; omega, ?_⟩
    simp only
    rw [show s.2 + d + 2 = s.2 + 2 + d by omega]
    exact this
theorem good_moved {l : List Sp} (d : Int) (g : Good l) (h : ∀ s ∈ l, okSp d s) : Good (moved l d) := by
  cases l with
  | nil => trivial
  | cons s r =>
    have := rt_moved d g h
    rw [moved_cons] at this ⊢
    have h0 := h s (List.mem_cons_self ..)
    unfold okSp at h0
    exact ⟨by simp only; omega, this.2⟩
theorem mem_moved (l : List Sp) (d t : Int) : mem (moved l d) t ↔ mem l (t - d) := by
  induction l with
  | nil => simp [moved_nil, mem_nil]
  | cons s r ih =>
    rw [moved_cons, mem_cons, mem_cons, ih]
    simp only
    constructor
    · rintro (h | h)
      · exact .inl (by omega)
      · exact .inr h
    · rintro (h | h)
      · exact .inl (by omega)
      · exact .inr h
theorem moved_back (l : List Sp) (d : Int) : moved (moved l d) (-d) = l := by
  induction l with
  | nil => rfl
  | cons s r ih =>
    rw [moved_cons, moved_cons, ih]
    obtain ⟨x, y⟩ := s
    simp only
    rw [show x + d + -d = x by omega, show y + d + -d = y by omega]
theorem count_moved (l : List Sp) (d : Int) : count (moved l d) = count l := by
  induction l with
  | nil => rfl
  | cons s r ih => rw [moved_cons]; simp only [count, ih]; omega
theorem ok_back {l : List Sp} {d : Int} (g : Good l) : ∀ s ∈ moved l d, okSp (-d) s := by
  intro s hs
  unfold moved at hs
  obtain ⟨x, hx, rfl⟩ := List.mem_map.1 hs
  obtain ⟨i, hi, rfl⟩ := List.getElem_of_mem hx
  have := good_at g i hi
  unfold okSp
  simp only
  omega
theorem ok_span {l : List Sp} {d : Int} (g : Good l) (h : ∀ s ∈ l, okSp d s) (h0 : l ≠ []) : -2199023255552 ≤ d ∧ d ≤ 2199023255552 := by
  obtain ⟨s, r, rfl⟩ := List.exists_cons_of_ne_nil h0
  have q := h s (List.mem_cons_self ..)
  have := g.1
  have := g.2.1
  have := g.2.2.1
  unfold okSp at q
  omega
theorem ok_mem {l : List Sp} {d : Int} (h : ∀ s ∈ l, okSp d s) {t : Int} (ht : mem l t) : -1099511627776 ≤ t + d ∧ t + d ≤ 1099511627776 := by
  obtain ⟨s, hs, h1, h2⟩ := ht
  have q := h s hs
  unfold okSp at q
  omega
theorem ok_of_mem {l : List Sp} {d : Int} (g : Good l) (h : ∀ t, mem l t → -1099511627776 ≤ t + d ∧ t + d ≤ 1099511627776) : ∀ s ∈ l, okSp d s := by
  intro s hs
  obtain ⟨i, hi, rfl⟩ := List.getElem_of_mem hs
  have q := good_at g i hi
  have h1 := h l[i].1 ⟨_, List.getElem_mem hi, Int.le_refl _, q.2.1⟩
  have h2 := h l[i].2 ⟨_, List.getElem_mem hi, q.2.1, Int.le_refl _⟩
  exact ⟨h1, h2⟩
theorem ahd_moved (a b : List Sp) (d : Int) : Ahd (moved a d) (moved b d) ↔ Ahd a b := by
  unfold moved
  constructor
  · intro h s hs u hu
    have := h _ (List.mem_map.2 ⟨s, hs, rfl⟩) _ (List.mem_map.2 ⟨u, hu, rfl⟩)
    simp only at this; omega
  · intro h s hs u hu
    obtain ⟨s', hs', rfl⟩ := List.mem_map.1 hs
    obtain ⟨u', hu', rfl⟩ := List.mem_map.1 hu
    have := h s' hs' u' hu'
    simp only; omega
/-- How many ticks below T. -/
def upto (T : Int) : List Sp → Int
  | [] => 0
  | s :: r => (if T ≤ s.1 then 0 else if T ≤ s.2 then T - s.1 else s.2 + 1 - s.1) + upto T r
theorem upto_low : ∀ {l : List Sp} {lo T : Int}, Rt lo l → T ≤ lo → upto T l = 0
  | [], _, _, _, _ => rfl
  | s :: r, lo, T, ⟨a, b, c, d⟩, h => by
    have := upto_low d (T := T) (by omega)
    simp only [upto, this]
    rw [if_pos (by omega)]; rfl
theorem upto_all : ∀ {l : List Sp} {lo T : Int}, Rt lo l → 1099511627776 < T → upto T l = count l
  | [], _, _, _, _ => rfl
  | s :: r, lo, T, ⟨a, b, c, d⟩, h => by
    have := upto_all d h
    simp only [upto, count, this]
    rw [if_neg (by omega), if_neg (by omega)]; omega
theorem upto_yes : ∀ {l : List Sp} {lo T : Int}, Rt lo l → mem l T → upto (T + 1) l = upto T l + 1
  | [], _, T, _, h => absurd h (mem_nil T)
  | s :: r, lo, T, ⟨a, b, c, d⟩, h => by
    simp only [upto]
    rcases (mem_cons s r T).1 h with ⟨x, y⟩ | h
    · have e1 := upto_low d (T := T) (by omega)
      have e2 := upto_low d (T := T + 1) (by omega)
      rw [e1, e2]
      split <;> split <;> (try split) <;> omega
    · have := (rt_lo d h).1
      rw [upto_yes d h]
      rw [if_neg (by omega), if_neg (by omega), if_neg (by omega), if_neg (by omega)]; omega
theorem upto_no : ∀ {l : List Sp} {lo T : Int}, Rt lo l → ¬ mem l T → upto (T + 1) l = upto T l
  | [], _, T, _, h => rfl
  | s :: r, lo, T, ⟨a, b, c, d⟩, h => by
    simp only [upto]
    have h1 : ¬ (s.1 ≤ T ∧ T ≤ s.2) := fun q => h ((mem_cons s r T).2 (.inl q))
    have h2 : ¬ mem r T := fun q => h ((mem_cons s r T).2 (.inr q))
    rw [upto_no d h2]
    split <;> split <;> (try split) <;> (try split) <;> omega
/-- Sums of how many there are, by what is so of each tick. -/
theorem count_sum {a b c d : List Sp} (ga : Good a) (gb : Good b) (gc : Good c) (gd : Good d) (h : ∀ t, ((mem a t ∧ mem b t) ↔ (mem c t ∧ mem d t)) ∧ ((mem a t ∨ mem b t) ↔ (mem c t ∨ mem d t))) : count a + count b = count c + count d := by
  have key : ∀ k : Nat, upto (-1099511627776 + k) a + upto (-1099511627776 + k) b = upto (-1099511627776 + k) c + upto (-1099511627776 + k) d := by
    intro k
    induction k with
    | zero => rw [upto_low ga (by omega), upto_low gb (by omega), upto_low gc (by omega), upto_low gd (by omega)]
    | succ k ih =>
      have e : (-1099511627776 + ((k + 1 : Nat) : Int)) = (-1099511627776 + (k : Int)) + 1 := by omega
      rw [e]
      generalize (-1099511627776 + (k : Int)) = T at ih ⊢
      have := h T
      by_cases p : mem a T <;> by_cases q : mem b T <;> by_cases r : mem c T <;> by_cases s : mem d T <;> simp only [p, q, r, s, and_self, or_self, and_true, true_and, or_true, true_or, or_false, false_or, and_false, false_and, iff_true, iff_false, true_iff, false_iff, not_true_eq_false] at this <;>
        (first | rw [upto_yes ga p] | rw [upto_no ga p]) <;> (first | rw [upto_yes gb q] | rw [upto_no gb q]) <;> (first | rw [upto_yes gc r] | rw [upto_no gc r]) <;> (first | rw [upto_yes gd s] | rw [upto_no gd s]) <;> omega
  have k := key 2199023255553
  have e : (-1099511627776 + ((2199023255553 : Nat) : Int)) = 1099511627777 := by decide
  rw [e] at k
  rwa [upto_all ga (by omega), upto_all gb (by omega), upto_all gc (by omega), upto_all gd (by omega)] at k
theorem tick_is (t : Int) (r : Bool) (h : tickB t = r) (w : World) : Calls Try.prog 77 #[.int .i64 t] w fun e w' => e = .returned (.bool r) ∧ w' = w := by
  subst h; exact (tick_any t w).mono fun e w' ⟨h1, h2⟩ => ⟨h1, h2.symm⟩
theorem rt_prefix : ∀ {a b : List Sp} {lo : Int}, Rt lo (a ++ b) → Rt lo a
  | [], _, _, _ => trivial
  | s :: r, b, lo, ⟨h1, h2, h3, h4⟩ => ⟨h1, h2, h3, rt_prefix h4⟩
/-- The next span keeps it right. -/
theorem good_step {l : List Sp} {i : Nat} (hi : i < l.length) (h : Good (l.take i)) : Good (l.take (i + 1)) ↔ l[i].1 ≤ l[i].2 ∧ -1099511627776 ≤ l[i].1 ∧ l[i].2 ≤ 1099511627776 ∧ (∀ j (hj : j < l.length), j + 1 = i → l[j].2 + 2 ≤ l[i].1) := by
  rw [List.take_succ_eq_append_getElem hi]
  show Rt _ _ ↔ _
  rw [rt_snoc]
  cases i with
  | zero =>
    simp only [List.take_zero, Rt, nxt, true_and]
    constructor
    · rintro ⟨a, b, c⟩; exact ⟨b, a, c, fun j hj e => by omega⟩
    · rintro ⟨a, b, c, _⟩; exact ⟨b, a, c⟩
  | succ k =>
    have hk : k < l.length := by omega
    have e : nxt (-1099511627776) (l.take (k + 1)) = l[k].2 + 2 := by rw [List.take_succ_eq_append_getElem hk, nxt_snoc]
    have g := nxt_le h
    rw [e] at g ⊢
    constructor
    · rintro ⟨_, a, b, c⟩; exact ⟨b, by omega, c, fun j hj e => by
        have e3 : j = k := by omega
        subst e3
        exact a⟩
    · rintro ⟨a, b, c, d⟩; exact ⟨h, d k hk rfl, a, c⟩
set_option maxHeartbeats 1000000 in
theorem right_any (ao : Option Addr) (n c : Nat) (l : List Sp) (w : World) (hl : SpAt w ao n c l) (r : Bool) (hr : r = true ↔ Good l) :
    Calls Try.prog 65 #[.slice ao n c] w fun e w' => e = .returned (.bool r) ∧ Below w.heap.size w w' := by
  have HL := Lib.hid hl
  have HR := Lib.hid hr
  have LN := Lib.hid hl.len
  have hmx : n ≤ 9223372036854775807 := Nat.le_trans hl.le hl.top
  clear hl hr
  go_enter Try.func65, Try.ntmps65
  go_wp2
  go_loopw [7] (fun ii wr => ∃ i : Nat, i ≤ n ∧ ii = .int .i64 i ∧ Hid (Good (l.take i)) ∧ Hid (Below w.heap.size w wr)) (fun ii _ => n - (intOf ii).toNat)
  case atStart => exact ⟨0, Nat.zero_le _, rfl, Lib.hid trivial, Lib.hid (Below.refl _ _)⟩
  case round =>
    obtain ⟨i, hi, rfl, HI, HW⟩ := hrel
    by_cases ilt : i < n
    · obtain ⟨b, p, rfl, hc⟩ := HL.out.here (by omega)
      have hil : i < l.length := by rw [LN.out]; exact ilt
      have c1 := cell_keep (hc i hil).1 HW.out
      have c2 := cell_keep (hc i hil).2 HW.out
      have HST := Lib.hid (good_step hil HI.out)
      have HNO : Hid (¬ Good (l.take (i + 1)) → false = r) := Lib.hid (fun h => by
        cases r
        · rfl
        · have := HR.out.1 rfl
          rw [← List.take_append_drop (i + 1) l] at this
          exact absurd (rt_prefix this) h)
      have i0' : (0 : Int) ≤ (i : Int) := by omega
      have i1' : (i : Int) < (n : Int) := by omega
      have HP : Hid (∀ k, k + 1 = i → ∃ z : Int, (∀ W, Below wr.heap.size wr W → W.cell? ⟨b, p + k * 2 + 1, none⟩ = some (.int .i64 z)) ∧ (-1099511627776 ≤ z ∧ z ≤ 1099511627776) ∧ ∀ (hk : k < l.length), l[k].2 = z) := Lib.hid (fun k hk => by
        have hkl : k < l.length := by omega
        refine ⟨l[k].2, fun W hW => cell_keep (cell_keep (hc k hkl).2 HW.out) hW, ?_, fun _ => rfl⟩
        have q := good_at HI.out k (by rw [List.length_take]; omega)
        rw [List.getElem_take] at q
        omega)
      clear hc
      obtain ⟨s, hs⟩ : ∃ z, l[i] = z := ⟨_, rfl⟩
      rw [hs] at c1 c2 HST
      have HIL := Lib.hid hil
      clear hs hil
      obtain ⟨x, y⟩ := s
      simp only at c1 c2
      have b1 := (box_cells wr (.int .i64 x) (.int .i64 y) 50).1
      have b2 := (box_cells wr (.int .i64 x) (.int .i64 y) 50).2
      have KA := Lib.hid ((Below.refl _ wr).alloc (Nat.le_refl _) (.cells #[.int .i64 x, .int .i64 y] 50))
      have HW2 := Lib.hid (HW.out.alloc HW.out.size (.cells #[.int .i64 x, .int .i64 y] 50))
      by_cases h1 : y < x
      · have HF := Lib.hid (HNO.out (fun g => by have := (HST.out.1 g).1; simp only at this; omega))
        clear HP HST HNO HR HI
        go_upto_region 4 with fail
        clear c1 c2 HL
        go_quiet (fail)
        go_wp2
        go_returns
        exact ⟨ret_bool HF.out, below_drewN HW2.out _⟩
      · cases h2 : tickB x
        · have HF := Lib.hid (HNO.out (fun g => by
            have := HST.out.1 g; simp only at this
            have q := (tickB_iff x).2 (by omega); rw [h2] at q; cases q))
          have T1 := Lib.hid (tick_is x _ h2)
          clear h2
          clear HP HST HNO HR HI
          go_upto_region 4 with fail
          clear c1 c2 HL
          go_quiet ((first | (go_at_call 77; with_reducible exact Calls.quiet_of_same (T1.out _)) | fail))
          go_wp2
          go_returns
          exact ⟨ret_bool HF.out, below_drewN HW2.out _⟩
        · cases h3 : tickB y
          · have HF := Lib.hid (HNO.out (fun g => by
              have := HST.out.1 g; simp only at this
              have q := (tickB_iff y).2 (by omega); rw [h3] at q; cases q))
            have T1 := Lib.hid (tick_is x _ h2)
            have T2 := Lib.hid (tick_is y _ h3)
            clear h2 h3
            clear HP HST HNO HR HI
            go_upto_region 4 with fail
            clear c1 c2 HL
            go_quiet ((first | (go_at_call 77; with_reducible exact Calls.quiet_of_same (T1.out _)) | (go_at_call 77; with_reducible exact Calls.quiet_of_same (T2.out _)) | fail))
            go_wp2
            go_returns
            exact ⟨ret_bool HF.out, below_drewN HW2.out _⟩
          · have HX := Lib.hid ((tickB_iff x).1 h2)
            have HY := Lib.hid ((tickB_iff y).1 h3)
            have T1 := Lib.hid (tick_is x _ h2)
            have T2 := Lib.hid (tick_is y _ h3)
            clear h2 h3
            by_cases h4 : i = 0
            · subst h4
              simp only [Nat.zero_mul, Nat.add_zero] at c1 c2
              have HOK : Hid (Good (l.take (0 + 1))) := Lib.hid (HST.out.2 ⟨by simp only; omega, HX.out.1, HY.out.2, fun j hj e => by omega⟩)
              clear HP HST HNO HR HI
              go_upto_region 4 with fail
              clear c1 c2 HL
              go_quiet ((first | (go_at_call 77; with_reducible exact Calls.quiet_of_same (T1.out _)) | (go_at_call 77; with_reducible exact Calls.quiet_of_same (T2.out _)) | fail))
              go_wp2
              go_roundw
              case rel => exact ⟨0 + 1, by omega, by go_num, HOK, Lib.hid (below_drewN HW2.out _)⟩
              case measure => simp [intOf]; omega
            · obtain ⟨k, hk⟩ : ∃ k, k + 1 = i := ⟨i - 1, by omega⟩
              obtain ⟨z, hz, ⟨hz1, hz2⟩, hz3⟩ := HP.out k hk
              have d1 := hz _ KA.out
              have e1 : IntKind.i64.wrap ((i : Int) - 1) = (k : Int) := by rw [IntWalk.i64_in _ (by omega)]; omega
              have k0 : (0 : Int) ≤ (k : Int) := by omega
              have k1 : (k : Int) < (n : Int) := by omega
              have k2 : k < n := by omega
              have k3 : (0 : Int) < (i : Int) := by omega
              have k4 : 0 < i := by omega
              have HZ3 := Lib.hid hz3
              have HKI := Lib.hid hk
              clear hz hz3
              by_cases h5 : x < z + 2
              · have HF := Lib.hid (HNO.out (fun g => by
                  have q := (HST.out.1 g).2.2.2 k (by have := HIL.out; have := HKI.out; omega) HKI.out
                  rw [HZ3.out] at q; simp only at q; omega))
                clear hk
                clear HP HST HNO HR HI
                go_upto_region 4 with fail
                clear c1 c2 HL
                go_quiet ((first | (go_at_call 77; with_reducible exact Calls.quiet_of_same (T1.out _)) | (go_at_call 77; with_reducible exact Calls.quiet_of_same (T2.out _)) | fail))
                go_wp2
                go_returns
                exact ⟨ret_bool HF.out, below_drewN HW2.out _⟩
              · have HOK : Hid (Good (l.take (i + 1))) := Lib.hid (HST.out.2 ⟨by simp only; omega, HX.out.1, HY.out.2, fun j hj e => by
                  have hkk := HKI.out
                  obtain rfl : j = k := by omega
                  rw [HZ3.out]; simp only; omega⟩)
                clear hk
                clear HP HST HNO HR HI
                go_upto_region 4 with fail
                clear c1 c2 HL
                go_quiet ((first | (go_at_call 77; with_reducible exact Calls.quiet_of_same (T1.out _)) | (go_at_call 77; with_reducible exact Calls.quiet_of_same (T2.out _)) | fail))
                go_wp2
                go_roundw
                case rel => exact ⟨i + 1, by omega, by go_num, HOK, Lib.hid (below_drewN HW2.out _)⟩
                case measure => simp [intOf]; omega
    · obtain rfl : i = n := by omega
      have HF : Hid (true = r) := Lib.hid (by
        have h := HI.out
        rw [List.take_of_length_le (by rw [LN.out]; exact Nat.le_refl _)] at h
        exact (HR.out.2 h).symm)
      go_wp2
      go_returns
      exact ⟨ret_bool HF.out, HW.out⟩
/-- A copy of elements of any size, from the head of a row on. -/
theorem run_copy_wide (w : World) (dT sT ty elem : TypeId) (S g dLen dCap : Nat) (a : Addr) (sLen sCap : Nat) (cur : Array Value) (t : TypeId) (cs : List Value)
    (hu : Try.prog.underlying dT = some (.slice elem)) (hs : (Try.prog.info? elem).map (·.size) = some S)
    (hg : w.heap[g]? = some (.cells cur t (0, 0))) (hn : cs.length = Nat.min sLen dLen * S)
    (hsrc : ∀ j v, cs[j]? = some v → w.cell? (a.add j) = some v) (hfit : cs.length ≤ cur.size) (h1 : ∀ v ∈ cs, v.oneCell' = true) :
    (Builtin.copy_ #[dT, sT] ty #[.slice (some ⟨g, 0, none⟩) dLen dCap, .slice (some a) sLen sCap]).run Try.prog w =
      .ok (goInt (Nat.min sLen dLen)) (w.setRow g (cs ++ cur.toList.drop cs.length).toArray) := by
  have hl := run_loadCells_list (P := Try.prog) w a cs hsrc
  have hst := run_storeCells_at Try.prog g 0 t cs 0 cur w hg (by simpa using hfit) h1
  cases hq : Try.prog.info? elem with
  | none => simp [hq] at hs
  | some i =>
    have hi : i.size = S := by simpa [hq] using hs
    simp [Builtin.copy_, run_underlying hu, Builtin.lenOf, Builtin.firstCells, sizeOf, typeInfo, hq, hi, ← hn, hl, hst]
theorem run_copy_void (w : World) (dT sT ty elem : TypeId) (S : Nat) (d : Option Addr) (dCap sCap : Nat) (hu : Try.prog.underlying dT = some (.slice elem)) (hs : (Try.prog.info? elem).map (·.size) = some S) :
    (Builtin.copy_ #[dT, sT] ty #[.slice d 0 dCap, .slice none 0 sCap]).run Try.prog w = .ok (goInt 0) w := by
  cases hq : Try.prog.info? elem with
  | none => simp [hq] at hs
  | some i => cases d <;> simp [Builtin.copy_, run_underlying hu, Builtin.lenOf, Builtin.firstCells, sizeOf, typeInfo, hq, storeCells]
theorem size50 : (Try.prog.info? 50).map (·.size) = some 2 := by kernel_rfl
theorem ret_int2 {k l : IntKind} {a b c d : Int} (h : a = b) (h' : c = d) : Ending.returned (.tuple #[.int k a, .int l c]) = .returned (.tuple #[.int k b, .int l d]) := by rw [h, h']
theorem ret_int3 {k l m : IntKind} {a b c d f g : Int} (h : a = b) (h' : c = d) (h'' : f = g) : Ending.returned (.tuple #[.int k a, .int l c, .int m f]) = .returned (.tuple #[.int k b, .int l d, .int m g]) := by rw [h, h', h'']
theorem unsigned_any (a : Int) (w : World) (h1 : -9223372036854775808 ≤ a) (h2 : a ≤ 9223372036854775807) :
    Calls Try.prog 71 #[.int .i64 a] w fun e w' => e = .returned (.int .u64 a.natAbs) ∧ w = w' := by
  by_cases h3 : a < 0
  · go_enter Try.func71, Try.ntmps71
    go_wp2
    go_ret
    exact ⟨ret_int (by rw [IntKind.wrap_u64, IntKind.wrap_u64]; omega), rfl⟩
  · go_enter Try.func71, Try.ntmps71
    go_wp2
    go_ret
    exact ⟨ret_int (by omega), rfl⟩
theorem signed_in (n : Int) (w : World) (h1 : 0 ≤ n) (h2 : n ≤ 9223372036854775807) :
    Calls Try.prog 74 #[.int .u64 n, .bool false] w fun e w' => e = .returned (.tuple #[.int .i64 n, .int .i64 0]) ∧ w = w' := by
  go_enter Try.func74, Try.ntmps74
  go_wp2
  go_ret2
  exact ⟨rfl, rfl⟩
theorem signed_over (n : Int) (w : World) (h1 : 9223372036854775807 < n) (h2 : n ≤ 18446744073709551615) :
    Calls Try.prog 74 #[.int .u64 n, .bool false] w fun e w' => e = .returned (.tuple #[.int .i64 0, .int .i64 10]) ∧ w = w' := by
  go_enter Try.func74, Try.ntmps74
  go_wp2
  go_ret2
  exact ⟨rfl, rfl⟩
theorem signed_under (n : Int) (w : World) (h1 : 9223372036854775808 < n) (h2 : n ≤ 18446744073709551615) :
    Calls Try.prog 74 #[.int .u64 n, .bool true] w fun e w' => e = .returned (.tuple #[.int .i64 0, .int .i64 10]) ∧ w = w' := by
  go_enter Try.func74, Try.ntmps74
  go_wp2
  go_ret2
  exact ⟨rfl, rfl⟩
theorem signed_neg (n : Int) (w : World) (h1 : 0 ≤ n) (h2 : n ≤ 9223372036854775808) :
    Calls Try.prog 74 #[.int .u64 n, .bool true] w fun e w' => e = .returned (.tuple #[.int .i64 (-n), .int .i64 0]) ∧ w = w' := by
  go_enter Try.func74, Try.ntmps74
  go_wp2
  go_ret2
  exact ⟨ret_int2 (by rw [IntKind.wrap_u64]; unfold wrap64; omega) rfl, rfl⟩
namespace Mul
theorem maskN (a : Nat) (ha : a < 18446744073709551616) : bits .and .u64 (a : Int) 4294967295 = ((a % 4294967296 : Nat) : Int) := by
  have h := bits_and_u64_nat a 4294967295 ha (by omega)
  have e : a &&& 4294967295 = a % 4294967296 := Nat.and_two_pow_sub_one_eq_mod a 32
  rw [e] at h
  exact h
theorem divN (a : Nat) : (a : Int) / 4294967296 = ((a / 4294967296 : Nat) : Int) := by omega
theorem mulN (a b : Nat) : (a : Int) * (b : Int) = ((a * b : Nat) : Int) := (Int.natCast_mul a b).symm
theorem addN (a b : Nat) : (a : Int) + (b : Int) = ((a + b : Nat) : Int) := (Int.natCast_add a b).symm
theorem wrapN (a : Nat) (ha : a < 18446744073709551616) : IntKind.u64.wrap (a : Int) = (a : Int) := by rw [IntKind.wrap_u64]; omega
theorem wrapM (a : Nat) : IntKind.u64.wrap (a : Int) = ((a % 18446744073709551616 : Nat) : Int) := by rw [IntKind.wrap_u64]; omega
end Mul
set_option maxHeartbeats 1000000 in
theorem mul64_any (x y : Nat) (hx : x < 18446744073709551616) (hy : y < 18446744073709551616) (w : World) :
    Calls Try.prog 72 #[.int .u64 x, .int .u64 y] w fun e w' => e = .returned (.tuple #[.int .u64 ((x * y / 18446744073709551616 : Nat) : Int), .int .u64 ((x * y % 18446744073709551616 : Nat) : Int)]) ∧ w = w' := by
  obtain ⟨bd, bt, bw, hhi⟩ := Lib.mul64_hi x y hx hy
  have ba := Lib.half_mul_le (a := x / 4294967296) (b := y / 4294967296) (by omega) (by omega)
  have bb := Lib.half_mul_le (a := x / 4294967296) (b := y % 4294967296) (by omega) (by omega)
  have bc := Lib.half_mul_le (a := x % 4294967296) (b := y / 4294967296) (by omega) (by omega)
  have ba' : x / 4294967296 * (y / 4294967296) < 18446744073709551616 := by omega
  have bb' : x / 4294967296 * (y % 4294967296) < 18446744073709551616 := by omega
  have bc' : x % 4294967296 * (y / 4294967296) < 18446744073709551616 := by omega
  have bh1 : x / 4294967296 * (y / 4294967296) + (x / 4294967296 * (y % 4294967296) + x % 4294967296 * (y % 4294967296) / 4294967296) / 4294967296 < 18446744073709551616 := by omega
  have bh : x / 4294967296 * (y / 4294967296) + (x / 4294967296 * (y % 4294967296) + x % 4294967296 * (y % 4294967296) / 4294967296) / 4294967296 + ((x / 4294967296 * (y % 4294967296) + x % 4294967296 * (y % 4294967296) / 4294967296) % 4294967296 + x % 4294967296 * (y / 4294967296)) / 4294967296 < 18446744073709551616 := by omega
  go_enter Try.func72, Try.ntmps72
  go_wp2
  simp only [Mul.maskN x hx, Mul.maskN y hy, Mul.divN, Mul.mulN, Mul.addN, Mul.wrapN _ bd, Mul.wrapN _ bb', Mul.wrapN _ bt, Mul.maskN _ bt, Mul.wrapN _ bc', Mul.wrapN _ bw, Mul.wrapN _ ba', Mul.wrapN _ bh1, Mul.wrapN _ bh, Mul.wrapM (x * y)]
  rw [hhi]
  go_ret2
  exact ⟨rfl, rfl⟩
theorem mul64_small (x y : Nat) (hx : x < 18446744073709551616) (hy : y < 18446744073709551616) (hs : x * y < 18446744073709551616) (w : World) :
    Calls Try.prog 72 #[.int .u64 x, .int .u64 y] w fun e w' => e = .returned (.tuple #[.int .u64 0, .int .u64 ((x * y : Nat) : Int)]) ∧ w = w' :=
  (mul64_any x y hx hy w).mono fun e w' ⟨he, hw⟩ => by
    rw [Nat.div_eq_of_lt hs, Nat.mod_eq_of_lt hs] at he
    exact ⟨he, hw⟩
theorem mul64_big (x y : Nat) (hx : x < 18446744073709551616) (hy : y < 18446744073709551616) (hs : 18446744073709551616 ≤ x * y) (w : World) :
    Calls Try.prog 72 #[.int .u64 x, .int .u64 y] w fun e w' => (∃ h l : Int, 0 < h ∧ e = .returned (.tuple #[.int .u64 h, .int .u64 l])) ∧ w = w' :=
  (mul64_any x y hx hy w).mono fun e w' ⟨he, hw⟩ => ⟨⟨_, _, by have : 0 < x * y / 18446744073709551616 := Nat.div_pos hs (by omega); omega, he⟩, hw⟩
theorem mul_ok (a b : Int) (w : World) (ha1 : -9223372036854775808 ≤ a) (ha2 : a ≤ 9223372036854775807) (hb1 : -9223372036854775808 ≤ b) (hb2 : b ≤ 9223372036854775807)
    (h1 : -9223372036854775808 ≤ a * b) (h2 : a * b ≤ 9223372036854775807) :
    Calls Try.prog 53 #[.int .i64 a, .int .i64 b] w fun e w' => e = .returned (.tuple #[.int .i64 (a * b), .int .i64 0]) ∧ w = w' := by
  have hn : ((a.natAbs * b.natAbs : Nat) : Int) = (a * b).natAbs := by rw [Int.natAbs_mul]
  have hs : a.natAbs * b.natAbs < 18446744073709551616 := by omega
  have m64 := mul64_small a.natAbs b.natAbs (by omega) (by omega) hs
  have hsame : (a < 0 ↔ b < 0) → ((a.natAbs * b.natAbs : Nat) : Int) = a * b := by
    intro h
    by_cases c : a < 0
    · have := Int.mul_nonneg_of_nonpos_of_nonpos (show a ≤ 0 by omega) (show b ≤ 0 by omega)
      omega
    · have := Int.mul_nonneg (show 0 ≤ a by omega) (show 0 ≤ b by omega)
      omega
  have hother : ¬ (a < 0 ↔ b < 0) → -((a.natAbs * b.natAbs : Nat) : Int) = a * b := by
    intro h
    by_cases c : a < 0
    · have := Int.mul_nonpos_of_nonpos_of_nonneg (show a ≤ 0 by omega) (show 0 ≤ b by omega)
      omega
    · have := Int.mul_nonpos_of_nonneg_of_nonpos (show 0 ≤ a by omega) (show b ≤ 0 by omega)
      omega
  generalize a.natAbs * b.natAbs = p at *
  generalize a * b = ab at *
  have M := Lib.hid m64
  clear m64
  have arms : ∀ x y : Bool, (a < 0 ↔ x = true) → (b < 0 ↔ y = true) → decide (a < 0) = x → decide (b < 0) = y →
      Calls Try.prog 53 #[.int .i64 a, .int .i64 b] w fun e w' => e = .returned (.tuple #[.int .i64 ab, .int .i64 0]) ∧ w = w' := by
    intro x y hx hy dx dy
    cases x <;> cases y
    · have e1 := hsame (by simp [hx, hy])
      subst e1
      clear hn hother hsame hx hy
      go_enter Try.func53, Try.ntmps53
      go_wp2_with (first | (go_at_call 71; refine (unsigned_any _ _ (by omega) (by omega)).mono ?_; rintro e w' ⟨rfl, rfl⟩) | (go_at_call 72; refine (M.out _).mono ?_; rintro e w' ⟨rfl, rfl⟩) | (go_at_call 74; refine (signed_in _ _ (by omega) (by omega)).mono ?_; rintro e w' ⟨rfl, rfl⟩))
      go_ret2
      exact ⟨rfl, rfl⟩
    · have e1 := hother (by simp [hx, hy])
      subst e1
      clear hn hother hsame hx hy
      go_enter Try.func53, Try.ntmps53
      go_wp2_with (first | (go_at_call 71; refine (unsigned_any _ _ (by omega) (by omega)).mono ?_; rintro e w' ⟨rfl, rfl⟩) | (go_at_call 72; refine (M.out _).mono ?_; rintro e w' ⟨rfl, rfl⟩) | (go_at_call 74; refine (signed_neg _ _ (by omega) (by omega)).mono ?_; rintro e w' ⟨rfl, rfl⟩))
      go_ret2
      exact ⟨rfl, rfl⟩
    · have e1 := hother (by simp [hx, hy])
      subst e1
      clear hn hother hsame hx hy
      go_enter Try.func53, Try.ntmps53
      go_wp2_with (first | (go_at_call 71; refine (unsigned_any _ _ (by omega) (by omega)).mono ?_; rintro e w' ⟨rfl, rfl⟩) | (go_at_call 72; refine (M.out _).mono ?_; rintro e w' ⟨rfl, rfl⟩) | (go_at_call 74; refine (signed_neg _ _ (by omega) (by omega)).mono ?_; rintro e w' ⟨rfl, rfl⟩))
      go_ret2
      exact ⟨rfl, rfl⟩
    · have e1 := hsame (by simp [hx, hy])
      subst e1
      clear hn hother hsame hx hy
      go_enter Try.func53, Try.ntmps53
      go_wp2_with (first | (go_at_call 71; refine (unsigned_any _ _ (by omega) (by omega)).mono ?_; rintro e w' ⟨rfl, rfl⟩) | (go_at_call 72; refine (M.out _).mono ?_; rintro e w' ⟨rfl, rfl⟩) | (go_at_call 74; refine (signed_in _ _ (by omega) (by omega)).mono ?_; rintro e w' ⟨rfl, rfl⟩))
      go_ret2
      exact ⟨rfl, rfl⟩
  exact arms (decide (a < 0)) (decide (b < 0)) (by simp) (by simp) rfl rfl
theorem drewN_drewN (w : World) (n m : Nat) : (w.drewN n).drewN m = w.drewN (n + m) := by simp [World.drewN, Nat.add_assoc]
theorem mul_over (a b : Int) (w : World) (ha1 : -9223372036854775808 ≤ a) (ha2 : a ≤ 9223372036854775807) (hb1 : -9223372036854775808 ≤ b) (hb2 : b ≤ 9223372036854775807)
    (h : a * b < -9223372036854775808 ∨ 9223372036854775807 < a * b) :
    Calls Try.prog 53 #[.int .i64 a, .int .i64 b] w fun e w' => e = .returned (.tuple #[.int .i64 0, .int .i64 10]) ∧ w = w' := by
  have hn : ((a.natAbs * b.natAbs : Nat) : Int) = (a * b).natAbs := by rw [Int.natAbs_mul]
  by_cases hs : a.natAbs * b.natAbs < 18446744073709551616
  · have m64 := mul64_small a.natAbs b.natAbs (by omega) (by omega) hs
    have hsame : (a < 0 ↔ b < 0) → 9223372036854775807 < ((a.natAbs * b.natAbs : Nat) : Int) := by
      intro g
      by_cases c : a < 0
      · have := Int.mul_nonneg_of_nonpos_of_nonpos (show a ≤ 0 by omega) (show b ≤ 0 by omega)
        omega
      · have := Int.mul_nonneg (show 0 ≤ a by omega) (show 0 ≤ b by omega)
        omega
    have hother : ¬ (a < 0 ↔ b < 0) → 9223372036854775808 < ((a.natAbs * b.natAbs : Nat) : Int) := by
      intro g
      by_cases c : a < 0
      · have := Int.mul_nonpos_of_nonpos_of_nonneg (show a ≤ 0 by omega) (show 0 ≤ b by omega)
        omega
      · have := Int.mul_nonpos_of_nonneg_of_nonpos (show 0 ≤ a by omega) (show b ≤ 0 by omega)
        omega
    generalize a.natAbs * b.natAbs = p at *
    clear hn h
    have M := Lib.hid m64
    clear m64
    have arms : ∀ x y : Bool, (a < 0 ↔ x = true) → (b < 0 ↔ y = true) → decide (a < 0) = x → decide (b < 0) = y →
        Calls Try.prog 53 #[.int .i64 a, .int .i64 b] w fun e w' => e = .returned (.tuple #[.int .i64 0, .int .i64 10]) ∧ w = w' := by
      intro x y hx hy dx dy
      cases x <;> cases y
      · have e1 := hsame (by simp [hx, hy])
        clear hother hsame hx hy
        go_enter Try.func53, Try.ntmps53
        go_wp2_with (first | (go_at_call 71; refine (unsigned_any _ _ (by omega) (by omega)).mono ?_; rintro e w' ⟨rfl, rfl⟩) | (go_at_call 72; refine (M.out _).mono ?_; rintro e w' ⟨rfl, rfl⟩) | (go_at_call 74; refine (signed_over _ _ (by omega) (by omega)).mono ?_; rintro e w' ⟨rfl, rfl⟩))
        go_ret2
        exact ⟨rfl, rfl⟩
      · have e1 := hother (by simp [hx, hy])
        clear hother hsame hx hy
        go_enter Try.func53, Try.ntmps53
        go_wp2_with (first | (go_at_call 71; refine (unsigned_any _ _ (by omega) (by omega)).mono ?_; rintro e w' ⟨rfl, rfl⟩) | (go_at_call 72; refine (M.out _).mono ?_; rintro e w' ⟨rfl, rfl⟩) | (go_at_call 74; refine (signed_under _ _ (by omega) (by omega)).mono ?_; rintro e w' ⟨rfl, rfl⟩))
        go_ret2
        exact ⟨rfl, rfl⟩
      · have e1 := hother (by simp [hx, hy])
        clear hother hsame hx hy
        go_enter Try.func53, Try.ntmps53
        go_wp2_with (first | (go_at_call 71; refine (unsigned_any _ _ (by omega) (by omega)).mono ?_; rintro e w' ⟨rfl, rfl⟩) | (go_at_call 72; refine (M.out _).mono ?_; rintro e w' ⟨rfl, rfl⟩) | (go_at_call 74; refine (signed_under _ _ (by omega) (by omega)).mono ?_; rintro e w' ⟨rfl, rfl⟩))
        go_ret2
        exact ⟨rfl, rfl⟩
      · have e1 := hsame (by simp [hx, hy])
        clear hother hsame hx hy
        go_enter Try.func53, Try.ntmps53
        go_wp2_with (first | (go_at_call 71; refine (unsigned_any _ _ (by omega) (by omega)).mono ?_; rintro e w' ⟨rfl, rfl⟩) | (go_at_call 72; refine (M.out _).mono ?_; rintro e w' ⟨rfl, rfl⟩) | (go_at_call 74; refine (signed_over _ _ (by omega) (by omega)).mono ?_; rintro e w' ⟨rfl, rfl⟩))
        go_ret2
        exact ⟨rfl, rfl⟩
    exact arms (decide (a < 0)) (decide (b < 0)) (by simp) (by simp) rfl rfl
  · have m64 := mul64_big a.natAbs b.natAbs (by omega) (by omega) (by omega)
    have M := Lib.hid m64
    clear m64 hn h hs
    go_enter Try.func53, Try.ntmps53
    go_wp2_with (first | (go_at_call 71; refine (unsigned_any _ _ (by omega) (by omega)).mono ?_; rintro e w' ⟨rfl, rfl⟩) | (go_at_call 72; refine (M.out _).mono ?_; rintro e w' ⟨⟨hh, ll, hpos, rfl⟩, rfl⟩))
    go_ret2
    exact ⟨rfl, rfl⟩
def rightB (i n : Int) : Bool := i == 0 || (i == 1 || i == -1) && n == 0
theorem rightB_iff (i n : Int) : rightB i n = true ↔ i = 0 ∨ (i = 1 ∨ i = -1) ∧ n = 0 := by simp [rightB]
def lessB (i n j m : Int) : Bool := rightB i n && rightB j m && (if i = j then decide (n < m) else decide (i < j))
theorem fl_unique {a b q r : Int} (h : q * b + r = a) (hr : (0 < b ∧ 0 ≤ r ∧ r < b) ∨ (b < 0 ∧ b < r ∧ r ≤ 0)) : q = a.fdiv b ∧ r = a.fmod b := by
  rcases hr with ⟨hb, h1, h2⟩ | ⟨hb, h1, h2⟩
  · have := (Int.fdiv_fmod_unique (a := a) (b := b) (r := r) (q := q) hb).2 ⟨by rw [Int.mul_comm b q]; omega, h1, h2⟩
    exact ⟨this.1.symm, this.2.symm⟩
  · have e := (Int.fdiv_fmod_unique (a := -a) (b := -b) (r := -r) (q := q) (by omega)).2 ⟨by rw [Int.neg_mul, Int.mul_comm b q]; omega, by omega, by omega⟩
    have e1 := e.1
    rw [Int.neg_fdiv_neg] at e1
    have e2 := Int.mul_fdiv_add_fmod a b
    rw [e1, Int.mul_comm b q] at e2
    exact ⟨e1.symm, by omega⟩
theorem floor_zero (a : Int) (w : World) :
    Calls Try.prog 24 #[.int .i64 a, .int .i64 0] w fun e w' => e = .returned (.tuple #[.int .i64 0, .int .i64 0, .int .i64 11]) ∧ w = w' := by
  go_enter Try.func24, Try.ntmps24
  go_wp2
  go_returns
  exact ⟨rfl, rfl⟩
theorem floor_over (w : World) :
    Calls Try.prog 24 #[.int .i64 (-9223372036854775808), .int .i64 (-1)] w fun e w' => e = .returned (.tuple #[.int .i64 0, .int .i64 0, .int .i64 10]) ∧ w = w' := by
  go_enter Try.func24, Try.ntmps24
  go_wp2
  go_returns
  exact ⟨rfl, rfl⟩
theorem floor_pos (a b : Int) (w : World) (ha1 : 0 ≤ a) (ha2 : a ≤ 9223372036854775807) (hb1 : 1 ≤ b) (hb2 : b ≤ 9223372036854775807) :
    Calls Try.prog 24 #[.int .i64 a, .int .i64 b] w fun e w' => e = .returned (.tuple #[.int .i64 (a.fdiv b), .int .i64 (a.fmod b), .int .i64 0]) ∧ ∃ n, w' = w.drewN n := by
  have U := Lib.hid (fl_unique (a := a) (b := b) (q := a / b) (r := a % b) (by rw [Int.mul_comm]; exact Int.mul_ediv_add_emod a b) (.inl ⟨by omega, Int.emod_nonneg _ (by omega), Int.emod_lt_of_pos _ (by omega)⟩))
  have n1 : 0 ≤ a % b := Int.emod_nonneg _ (by omega)
  have n2 : a % b < b := Int.emod_lt_of_pos _ (by omega)
  have m1 : 0 ≤ a / b := Int.ediv_nonneg (by omega) (by omega)
  have m2 : a / b ≤ a := Int.ediv_le_self _ (by omega)
  by_cases c : a % b = 0
  · have c' := Lib.hid c
    have d1 : (a % b != 0) = false := by rw [c]; rfl
    clear c
    go_enter Try.func24, Try.ntmps24
    go_wp2
    go_quiet (fail)
    go_wp2
    go_returns
    exact ⟨ret_int3 U.out.1 U.out.2 rfl, _, rfl⟩
  · have d0 : 0 < a % b := by omega
    have d1 : (a % b != 0) = true := by simpa using c
    have d2 : decide (a % b < 0) = false := by simp; omega
    have d3 : decide (b < 0) = false := by simp; omega
    clear c
    go_enter Try.func24, Try.ntmps24
    go_wp2
    go_quiet (fail)
    go_wp2
    go_returns
    exact ⟨ret_int3 U.out.1 U.out.2 rfl, _, rfl⟩
theorem floor_gen (a b : Int) (w : World) (ha1 : -9223372036854775808 ≤ a) (ha2 : a ≤ 9223372036854775807) (hb1 : -9223372036854775808 ≤ b) (hb2 : b ≤ 9223372036854775807)
    (h0 : b ≠ 0) (hno : ¬ (a = -9223372036854775808 ∧ b = -1)) (hneg : a < 0 ∨ b < 0) :
    Calls Try.prog 24 #[.int .i64 a, .int .i64 b] w fun e w' => e = .returned (.tuple #[.int .i64 (a.fdiv b), .int .i64 (a.fmod b), .int .i64 0]) ∧ ∃ n, w' = w.drewN n := by
  have hm := Int.mul_tdiv_add_tmod a b
  rw [Int.mul_comm] at hm
  have q1 := Int.natAbs_tdiv_le_natAbs a b
  have r1 : (a.tmod b).natAbs < b.natAbs := by rw [Int.natAbs_tmod]; exact Nat.mod_lt _ (by omega)
  have s1 : 0 ≤ a → 0 ≤ a.tmod b := fun h => Int.tmod_nonneg b h
  have s2 : a ≤ 0 → a.tmod b ≤ 0 := fun h => by have := Int.tmod_nonneg b (show 0 ≤ -a by omega); rw [Int.neg_tmod] at this; omega
  have qq : a.tdiv b ≤ 9223372036854775807 := by
    by_cases e : a = -9223372036854775808
    · have hb : b ≠ -1 := fun h => hno ⟨e, h⟩
      have hd := Int.natAbs_tdiv a b
      by_cases hb1 : b = 1
      · rw [hb1, Int.tdiv_one]; omega
      · have h2 : 2 ≤ b.natAbs := by omega
        have h3 : a.natAbs.div b.natAbs ≤ a.natAbs / 2 := Nat.div_le_div_left h2 (by omega)
        omega
    · omega
  have qb1 : -9223372036854775808 ≤ a.tdiv b := by omega
  have z0 : (b == 0) = false := by simpa using h0
  have qs : a.tmod b = 0 ∨ -9223372036854775807 ≤ a.tdiv b := by
    by_cases e : a.tmod b = 0
    · exact .inl e
    · right
      by_cases hb : a.tdiv b = -9223372036854775808
      · exfalso
        have hab : a.natAbs = 9223372036854775808 := by omega
        have ha : a = -9223372036854775808 := by omega
        have hd := Int.natAbs_tdiv a b
        by_cases hb1 : b.natAbs = 1
        · have : b = 1 ∨ b = -1 := by omega
          rcases this with h | h
          · rw [h] at e; simp at e
          · rw [h] at e; simp at e
        · have h2 : 2 ≤ b.natAbs := by omega
          have h3 : a.natAbs.div b.natAbs ≤ a.natAbs / 2 := Nat.div_le_div_left h2 (by omega)
          omega
      · omega
  have z0 : (b == 0) = false := by simpa using h0
  have z1 : (a == -9223372036854775808) = false ∨ (a == -9223372036854775808) = true ∧ (b == -1) = false := by
    by_cases e : a = -9223372036854775808
    · right; exact ⟨by simpa using e, by simp; omega⟩
    · left; simpa using e
  have FU := Lib.hid (fun q r => @fl_unique a b q r)
  have HM := Lib.hid hm
  have S1 := Lib.hid s1
  have S2 := Lib.hid s2
  clear q1 hm hno s1 s2 hneg
  by_cases c : a.tmod b = 0
  · have U := Lib.hid (FU.out (a.tdiv b) (a.tmod b) HM.out (by omega))
    have d1 : (a.tmod b != 0) = false := by rw [c]; rfl
    clear c qs FU
    rcases z1 with z1 | ⟨z1, z2⟩
    all_goals
      go_enter Try.func24, Try.ntmps24
      go_wp2
      go_quiet (fail)
      go_wp2
      go_returns
      exact ⟨ret_int3 U.out.1 U.out.2 rfl, _, rfl⟩
  · have d1 : (a.tmod b != 0) = true := by simpa using c
    have qs' := qs.resolve_left c
    by_cases cr : a.tmod b < 0 <;> by_cases cb : b < 0
    · have U := Lib.hid (FU.out (a.tdiv b) (a.tmod b) HM.out (by omega))
      have d2 : decide (a.tmod b < 0) = true := by simpa using cr
      have d3 : decide (b < 0) = true := by simpa using cb
      clear c qs FU
      rcases z1 with z1 | ⟨z1, z2⟩
      all_goals
        go_enter Try.func24, Try.ntmps24
        go_wp2
        go_quiet (fail)
        go_wp2
        go_returns
        exact ⟨ret_int3 U.out.1 U.out.2 rfl, _, rfl⟩
    · have U := Lib.hid (FU.out (a.tdiv b - 1) (a.tmod b + b) (by have := HM.out; rw [Int.sub_mul]; omega) (by omega))
      have d2 : decide (a.tmod b < 0) = true := by simpa using cr
      have d3 : decide (b < 0) = false := by simpa using cb
      clear c qs FU
      rcases z1 with z1 | ⟨z1, z2⟩
      all_goals
        go_enter Try.func24, Try.ntmps24
        go_wp2
        go_quiet (fail)
        go_wp2
        go_returns
        exact ⟨ret_int3 U.out.1 U.out.2 rfl, _, rfl⟩
    · have U := Lib.hid (FU.out (a.tdiv b - 1) (a.tmod b + b) (by have := HM.out; rw [Int.sub_mul]; omega) (by omega))
      have d2 : decide (a.tmod b < 0) = false := by simpa using cr
      have d3 : decide (b < 0) = true := by simpa using cb
      clear c qs FU
      rcases z1 with z1 | ⟨z1, z2⟩
      all_goals
        go_enter Try.func24, Try.ntmps24
        go_wp2
        go_quiet (fail)
        go_wp2
        go_returns
        exact ⟨ret_int3 U.out.1 U.out.2 rfl, _, rfl⟩
    · have U := Lib.hid (FU.out (a.tdiv b) (a.tmod b) HM.out (by omega))
      have d2 : decide (a.tmod b < 0) = false := by simpa using cr
      have d3 : decide (b < 0) = false := by simpa using cb
      clear c qs FU
      rcases z1 with z1 | ⟨z1, z2⟩
      all_goals
        go_enter Try.func24, Try.ntmps24
        go_wp2
        go_quiet (fail)
        go_wp2
        go_returns
        exact ⟨ret_int3 U.out.1 U.out.2 rfl, _, rfl⟩
theorem floor_ok (a b : Int) (w : World) (ha1 : -9223372036854775808 ≤ a) (ha2 : a ≤ 9223372036854775807) (hb1 : -9223372036854775808 ≤ b) (hb2 : b ≤ 9223372036854775807)
    (h0 : b ≠ 0) (hno : ¬ (a = -9223372036854775808 ∧ b = -1)) :
    Calls Try.prog 24 #[.int .i64 a, .int .i64 b] w fun e w' => e = .returned (.tuple #[.int .i64 (a.fdiv b), .int .i64 (a.fmod b), .int .i64 0]) ∧ ∃ n, w' = w.drewN n := by
  by_cases h : 0 ≤ a ∧ 1 ≤ b
  · exact floor_pos a b w h.1 ha2 h.2 hb2
  · exact floor_gen a b w ha1 ha2 hb1 hb2 h0 hno (by omega)
/-- The least common multiple as it is reckoned. -/
def lcmN (a b : Int) : Nat := a.natAbs / Nat.gcd a.natAbs b.natAbs * b.natAbs
/-- A slice of sets. -/
structure CoAt (w : World) (ao : Option Addr) (n c : Nat) (ls : List (List Sp)) : Prop where
  len : ls.length = n
  le : n ≤ c
  top : c ≤ 9223372036854775807
  bare : ao = none → n = 0 ∧ c = 0
  here : 0 < n → ∃ b p, ao = some ⟨b, p, none⟩ ∧ ∀ i (h : i < ls.length), ∃ o k d, w.cell? ⟨b, p + i, none⟩ = some (.slice o k d) ∧ SpAt w o k d ls[i]
theorem CoAt.keep {w w' : World} {ao : Option Addr} {n c : Nat} {ls : List (List Sp)} (h : CoAt w ao n c ls) (k : Below w.heap.size w w') : CoAt w' ao n c ls :=
  ⟨h.len, h.le, h.top, h.bare, fun h0 => by
    obtain ⟨b, p, e, hc⟩ := h.here h0
    refine ⟨b, p, e, fun i hi => ?_⟩
    obtain ⟨o, m, d, h1, h2⟩ := hc i hi
    exact ⟨o, m, d, cell_keep h1 k, h2.keep k⟩⟩
abbrev Gr := Int × List Sp
/-- A slice of exceptions. -/
structure OdAt (w : World) (ao : Option Addr) (n c : Nat) (os : List Gr) : Prop where
  len : os.length = n
  le : n ≤ c
  top : c ≤ 9223372036854775807
  bare : ao = none → n = 0 ∧ c = 0
  here : 0 < n → ∃ b p, ao = some ⟨b, p, none⟩ ∧ ∀ i (h : i < os.length), w.cell? ⟨b, p + i * 2, none⟩ = some (.int .i64 os[i].1) ∧ (∃ o k d, w.cell? ⟨b, p + i * 2 + 1, none⟩ = some (.slice o k d) ∧ SpAt w o k d os[i].2) ∧ -9223372036854775808 ≤ os[i].1 ∧ os[i].1 ≤ 9223372036854775807
theorem OdAt.keep {w w' : World} {ao : Option Addr} {n c : Nat} {os : List Gr} (h : OdAt w ao n c os) (k : Below w.heap.size w w') : OdAt w' ao n c os :=
  ⟨h.len, h.le, h.top, h.bare, fun h0 => by
    obtain ⟨b, p, e, hc⟩ := h.here h0
    refine ⟨b, p, e, fun i hi => ?_⟩
    obtain ⟨h1, ⟨o, m, d, h2, h3⟩, h4⟩ := hc i hi
    exact ⟨cell_keep h1 k, ⟨o, m, d, cell_keep h2 k, h3.keep k⟩, h4⟩⟩
/-- A form as it is handed over. -/
structure Fv where
  P : Int
  N : Int
  co : Option Addr
  cn : Nat
  cc : Nat
  oo : Option Addr
  on : Nat
  oc : Nat
  cs : List (List Sp)
  os : List Gr
abbrev Fv.v (F : Fv) : Value := .agg #[.int .i64 F.P, .int .i64 F.N, .slice F.co F.cn F.cc, .slice F.oo F.on F.oc]
structure Fv.At (F : Fv) (w : World) : Prop where
  p1 : -9223372036854775808 ≤ F.P
  p2 : F.P ≤ 9223372036854775807
  n1 : -9223372036854775808 ≤ F.N
  n2 : F.N ≤ 9223372036854775807
  core : CoAt w F.co F.cn F.cc F.cs
  odd : OdAt w F.oo F.on F.oc F.os
  short : (∀ l ∈ F.cs, l.length ≤ 10000000000000) ∧ ∀ o ∈ F.os, o.2.length ≤ 10000000000000
theorem Fv.At.keep {F : Fv} {w w' : World} (h : F.At w) (k : Below w.heap.size w w') : F.At w' := ⟨h.p1, h.p2, h.n1, h.n2, h.core.keep k, h.odd.keep k, h.short⟩
abbrev Fv.box (F : Fv) : Array Value := #[.int .i64 F.P, .int .i64 F.N, .slice F.co F.cn F.cc, .slice F.oo F.on F.oc]
theorem box4 (w : World) (x y z u : Value) (t : TypeId) : (w.alloc (.cells #[x, y, z, u] t)).cell? ⟨w.heap.size, 0, none⟩ = some x ∧ (w.alloc (.cells #[x, y, z, u] t)).cell? ⟨w.heap.size, 1, none⟩ = some y ∧ (w.alloc (.cells #[x, y, z, u] t)).cell? ⟨w.heap.size, 2, none⟩ = some z ∧ (w.alloc (.cells #[x, y, z, u] t)).cell? ⟨w.heap.size, 3, none⟩ = some u := by
  have h : (w.alloc (.cells #[x, y, z, u] t)).heap[w.heap.size]? = some (.cells #[x, y, z, u] t) := by
    show (w.heap.push _)[w.heap.size]? = _
    simp
  refine ⟨?_, ?_, ?_, ?_⟩ <;> (unfold World.cell?; rw [h]; rfl)
/-- What a function knows of the form that it has boxed. -/
structure Fbox (F : Fv) (w0 w : World) (b : Nat) : Prop where
  at_ : F.At w
  c0 : w.cell? ⟨b, 0, none⟩ = some (.int .i64 F.P)
  c1 : w.cell? ⟨b, 1, none⟩ = some (.int .i64 F.N)
  c2 : w.cell? ⟨b, 2, none⟩ = some (.slice F.co F.cn F.cc)
  c3 : w.cell? ⟨b, 3, none⟩ = some (.slice F.oo F.on F.oc)
  bw : Below w0.heap.size w0 w
theorem Fbox.keep {F : Fv} {w0 w w' : World} {b : Nat} (h : Fbox F w0 w b) (k : Below w.heap.size w w') : Fbox F w0 w' b :=
  ⟨h.at_.keep k, cell_keep h.c0 k, cell_keep h.c1 k, cell_keep h.c2 k, cell_keep h.c3 k, h.bw.trans (k.mono h.bw.size)⟩
theorem fbox_new {F : Fv} {w : World} (h : F.At w) : Fbox F w (w.alloc (.cells F.box 25)) w.heap.size :=
  have q := box4 w (.int .i64 F.P) (.int .i64 F.N) (.slice F.co F.cn F.cc) (.slice F.oo F.on F.oc) 25
  ⟨h.keep ((Below.refl _ w).alloc (Nat.le_refl _) _), q.1, q.2.1, q.2.2.1, q.2.2.2, (Below.refl _ w).alloc (Nat.le_refl _) _⟩
/-- How many spans. -/
def lens : List (List Sp) → Nat
  | [] => 0
  | l :: r => l.length + lens r
theorem lens_snoc : ∀ (l : List (List Sp)) (x : List Sp), lens (l ++ [x]) = lens l + x.length
  | [], x => by simp [lens]
  | y :: r, x => by simp [lens, lens_snoc r x]; omega
abbrev tks (os : List Gr) : List (List Sp) := os.map (fun o => o.2)
def Fv.size (F : Fv) : Nat := lens F.cs + lens (tks F.os)
theorem lens_le {ls : List (List Sp)} {m : Nat} (h : ∀ l ∈ ls, l.length ≤ m) : lens ls ≤ ls.length * m := by
  induction ls with
  | nil => simp [lens]
  | cons l r ih =>
    have h1 := h l (List.mem_cons_self ..)
    have h2 := ih (fun x hx => h x (List.mem_cons_of_mem _ hx))
    simp only [lens, List.length_cons, Nat.add_mul, Nat.one_mul]
    omega
theorem lens_take_succ {ls : List (List Sp)} {i : Nat} (h : i < ls.length) : lens (ls.take (i + 1)) = lens (ls.take i) + ls[i].length := by
  rw [List.take_succ_eq_append_getElem h, lens_snoc]
theorem lens_bound {ls : List (List Sp)} {m : Nat} (h : ∀ l ∈ ls, l.length ≤ m) (i : Nat) : lens (ls.take i) ≤ i * m := by
  have q := lens_le (ls := ls.take i) (m := m) (fun l hl => h l (List.mem_of_mem_take hl))
  have := List.length_take_le i ls
  exact Nat.le_trans q (Nat.mul_le_mul_right m this)
set_option maxHeartbeats 2000000 in
theorem size_any (F : Fv) (w : World) (hF : F.At w) (h1 : F.cn ≤ 100000) (h2 : F.on ≤ 100000) :
    Calls Try.prog 41 #[F.v] w fun e w' => e = .returned (.int .i64 (F.size : Nat)) ∧ Below w.heap.size w w' := by
  obtain ⟨P, N, co, cn, cc, oo, on, oc, cs, os⟩ := F
  have LC : Hid (cs.length = cn) := Lib.hid hF.core.len
  have LO : Hid (os.length = on) := Lib.hid hF.odd.len
  have S1 : Hid (∀ l ∈ cs, l.length ≤ 10000000000000) := Lib.hid hF.short.1
  have S2 : Hid (∀ o ∈ os, o.2.length ≤ 10000000000000) := Lib.hid hF.short.2
  have SC := Lib.hid (fun i => lens_bound S1.out i)
  have SO := Lib.hid (fun i => lens_bound (ls := tks os) (m := 10000000000000) (fun l hl => by
    obtain ⟨o, ho, rfl⟩ := List.mem_map.1 hl
    exact S2.out o ho) i)
  have h1 : cn ≤ 100000 := h1
  have h2 : on ≤ 100000 := h2
  obtain ⟨b, hb⟩ : ∃ b, w.heap.size = b := ⟨_, rfl⟩
  obtain ⟨wb, hwb⟩ : ∃ wb, w.alloc (.cells #[.int .i64 P, .int .i64 N, .slice co cn cc, .slice oo on oc] 25) = wb := ⟨_, rfl⟩
  have HBB : Hid (Fbox ⟨P, N, co, cn, cc, oo, on, oc, cs, os⟩ w wb b) := Lib.hid (by rw [← hwb, ← hb]; exact fbox_new hF)
  clear hF
  show Calls Try.prog 41 #[.agg #[.int .i64 P, .int .i64 N, .slice co cn cc, .slice oo on oc]] w _
  go_enter Try.func41, Try.ntmps41
  go_upto_region 1 with fail
  clear hwb hb
  have c2 : wb.cell? ⟨b, 2, none⟩ = some (.slice co cn cc) := HBB.out.c2
  go_wp2
  clear c2
  go_loopw [3, 11] (fun nn ii wr => ∃ i : Nat, i ≤ cn ∧ ii = .int .i64 i ∧ nn = .int .i64 (lens (cs.take i) : Nat) ∧ Hid (Fbox ⟨P, N, co, cn, cc, oo, on, oc, cs, os⟩ w wr b)) (fun _ ii _ => cn - (intOf ii).toNat)
  case atStart => exact ⟨0, Nat.zero_le _, rfl, rfl, HBB⟩
  case round =>
    obtain ⟨i, hi, rfl, rfl, HW⟩ := hrel
    have s1 := SC.out i
    by_cases ilt : i < cn
    · obtain ⟨g, p, rfl, hc⟩ := (show CoAt wr co cn cc cs from HW.out.at_.core).here (by omega)
      have hil : i < cs.length := by rw [LC.out]; exact ilt
      obtain ⟨o, m, d, d1, d2⟩ := hc i hil
      have HT := Lib.hid (lens_take_succ hil)
      have s2 : m ≤ 10000000000000 := by have := S1.out _ (List.getElem_mem hil); rw [← d2.len]; exact this
      have HM := Lib.hid d2.len
      obtain ⟨L, hL⟩ : ∃ q, lens (cs.take i) = q := ⟨_, rfl⟩
      rw [hL] at HT s1
      rw [hL]
      have i0 : (0 : Int) ≤ (i : Int) := by omega
      have i1 : (i : Int) < (cn : Int) := by omega
      have HE : Hid (((lens (cs.take (i + 1)) : Nat) : Int) = (L : Int) + (m : Int)) := Lib.hid (by rw [HT.out, HM.out]; omega)
      have s3 : (L : Int) ≤ 1000000000000000000 := by omega
      clear hc hL d2 HT HM s1
      clear hil
      go_wp2
      go_roundw
      case rel => exact ⟨i + 1, by omega, by go_num, by rw [HE.out], HW⟩
      case measure => simp [intOf]; omega
    · obtain rfl : cn = i := by omega
      have HT : Hid (cs.take cn = cs) := Lib.hid (List.take_of_length_le (by rw [LC.out]; exact Nat.le_refl _))
      rw [HT.out] at s1 ⊢
      obtain ⟨K, hK⟩ : ∃ q, lens cs = q := ⟨_, rfl⟩
      rw [hK] at s1 ⊢
      have HK := Lib.hid hK
      clear hK
      have c3 : wr.cell? ⟨b, 3, none⟩ = some (.slice oo on oc) := HW.out.c3
      go_wp2
      clear c3
      go_loopw [3, 23] (fun nn ii wr => ∃ i : Nat, i ≤ on ∧ ii = .int .i64 i ∧ nn = .int .i64 ((K + lens ((tks os).take i) : Nat) : Int) ∧ Hid (Fbox ⟨P, N, co, cn, cc, oo, on, oc, cs, os⟩ w wr b)) (fun _ ii _ => on - (intOf ii).toNat)
      case atStart => exact ⟨0, Nat.zero_le _, rfl, rfl, HW⟩
      case round =>
        obtain ⟨i, hi, rfl, rfl, HW⟩ := hrel
        have s2 := SO.out i
        by_cases ilt : i < on
        · obtain ⟨g, p, rfl, hc⟩ := (show OdAt wr oo on oc os from HW.out.at_.odd).here (by omega)
          have hil : i < os.length := by rw [LO.out]; exact ilt
          obtain ⟨d1, ⟨o, m, d, d2, d3⟩, d4, d5⟩ := hc i hil
          have HT := Lib.hid (lens_take_succ (ls := tks os) (i := i) (by simpa using hil))
          have s3 : m ≤ 10000000000000 := by have := S2.out _ (List.getElem_mem hil); rw [← d3.len]; exact this
          have HM : Hid (((tks os)[i]'(by simpa using hil)).length = m) := Lib.hid (by rw [List.getElem_map]; exact d3.len)
          obtain ⟨X, hX⟩ : ∃ q, os[i].1 = q := ⟨_, rfl⟩
          rw [hX] at d1 d4 d5
          obtain ⟨L, hL⟩ : ∃ q, lens ((tks os).take i) = q := ⟨_, rfl⟩
          rw [hL] at HT s2
          rw [hL]
          have i0 : (0 : Int) ≤ (i : Int) := by omega
          have i1 : (i : Int) < (on : Int) := by omega
          have HE : Hid (((K + lens ((tks os).take (i + 1)) : Nat) : Int) = ((K + L : Nat) : Int) + (m : Int)) := Lib.hid (by rw [HT.out, HM.out]; omega)
          obtain ⟨T, hT⟩ : ∃ q, K + L = q := ⟨_, rfl⟩
          rw [hT] at HE
          rw [hT]
          have s4 : (T : Int) ≤ 3000000000000000000 := by omega
          have HW2 := Lib.hid (HW.out.keep ((Below.refl _ wr).alloc (Nat.le_refl _) (.cells #[.int .i64 X, .slice o m d] 52)))
          have f2 := (box_cells wr (.int .i64 X) (.slice o m d) 52).2
          clear hc hL d3 HT HM s1 s2 hT hX
          clear hil
          go_wp2
          go_roundw
          case rel => exact ⟨i + 1, by omega, by go_num, by rw [HE.out], HW2⟩
          case measure => simp [intOf]; omega
        · obtain rfl : on = i := by omega
          have HT : Hid ((tks os).take on = tks os) := Lib.hid (List.take_of_length_le (by rw [List.length_map, LO.out]; exact Nat.le_refl _))
          rw [HT.out]
          have HS : Hid (((K + lens (tks os) : Nat) : Int) = ((Fv.size ⟨P, N, co, cn, cc, oo, on, oc, cs, os⟩ : Nat) : Int)) := Lib.hid (by rw [← HK.out]; rfl)
          clear HT s2
          go_wp2
          go_returns
          exact ⟨ret_int HS.out, HW.out.bw⟩
set_option maxHeartbeats 1000000 in
theorem small_any (F : Fv) (w : World) (hF : F.At w) (r : Bool) (hr : r = true ↔ F.cn ≤ 12 ∧ F.on ≤ 8 ∧ F.size ≤ 60) :
    Calls Try.prog 17 #[F.v] w fun e w' => e = .returned (.bool r) ∧ Below w.heap.size w w' := by
  have l1 := hF.core.le
  have l2 := hF.core.top
  have l3 := hF.odd.le
  have l4 := hF.odd.top
  have HSZ := Lib.hid (fun W (h : F.At W) (h1 : F.cn ≤ 100000) (h2 : F.on ≤ 100000) => size_any F W h h1 h2)
  obtain ⟨S, hS⟩ : ∃ q, F.size = q := ⟨_, rfl⟩
  rw [hS] at HSZ hr
  have HR := Lib.hid hr
  clear hS hr
  obtain ⟨P, N, co, cn, cc, oo, on, oc, cs, os⟩ := F
  have LC : Hid (cs.length = cn) := Lib.hid hF.core.len
  have LO : Hid (os.length = on) := Lib.hid hF.odd.len
  obtain ⟨b, hb⟩ : ∃ b, w.heap.size = b := ⟨_, rfl⟩
  obtain ⟨wb, hwb⟩ : ∃ wb, w.alloc (.cells #[.int .i64 P, .int .i64 N, .slice co cn cc, .slice oo on oc] 25) = wb := ⟨_, rfl⟩
  have HBB : Hid (Fbox ⟨P, N, co, cn, cc, oo, on, oc, cs, os⟩ w wb b) := Lib.hid (by rw [← hwb, ← hb]; exact fbox_new hF)
  clear hF
  show Calls Try.prog 17 #[.agg #[.int .i64 P, .int .i64 N, .slice co cn cc, .slice oo on oc]] w _
  go_enter Try.func17, Try.ntmps17
  go_upto_region 1 with fail
  clear hwb hb
  have HSZ : Hid (∀ W, Fv.At ⟨P, N, co, cn, cc, oo, on, oc, cs, os⟩ W → cn ≤ 100000 → on ≤ 100000 → Calls Try.prog 41 #[.agg #[.int .i64 P, .int .i64 N, .slice co cn cc, .slice oo on oc]] W fun e w' => e = .returned (.int .i64 (S : Nat)) ∧ Below W.heap.size W w') := HSZ
  have HR : Hid (r = true ↔ cn ≤ 12 ∧ on ≤ 8 ∧ S ≤ 60) := HR
  have l1 : cn ≤ cc := l1
  have l2 : cc ≤ 9223372036854775807 := l2
  have l3 : on ≤ oc := l3
  have l4 : oc ≤ 9223372036854775807 := l4
  have e0 : wb.cell? ⟨b, 0, none⟩ = some (.int .i64 P) := HBB.out.c0
  have e1 : wb.cell? ⟨b, 1, none⟩ = some (.int .i64 N) := HBB.out.c1
  have e2 : wb.cell? ⟨b, 2, none⟩ = some (.slice co cn cc) := HBB.out.c2
  have e3 : wb.cell? ⟨b, 3, none⟩ = some (.slice oo on oc) := HBB.out.c3
  by_cases h1 : cn ≤ 12
  · have t1 : (cn : Int) ≤ 12 := by omega
    by_cases h2 : on ≤ 8
    · have t2 : (on : Int) ≤ 8 := by omega
      go_wp2_with fail
      (with_reducible refine (HSZ.out _ HBB.out.at_ (by omega) (by omega)).mono ?_)
      rintro e w2 ⟨rfl, q⟩
      have HBB := Lib.hid (HBB.out.keep q)
      clear q
      by_cases h3 : S ≤ 60
      · have t3 : (S : Int) ≤ 60 := by omega
        have HE : Hid (true = r) := Lib.hid (HR.out.2 ⟨h1, h2, h3⟩).symm
        go_wp2
        go_returns
        exact ⟨ret_bool (by rw [← HE.out]; (first | done | rfl | (simp; done) | (simp; omega))), HBB.out.bw⟩
      · have t3 : ¬ (S : Int) ≤ 60 := by omega
        have HE : Hid (false = r) := Lib.hid (by cases r; rfl; exact absurd (HR.out.1 rfl).2.2 h3)
        go_wp2
        go_returns
        exact ⟨ret_bool (by rw [← HE.out]; (first | done | rfl | (simp; done) | (simp; omega))), HBB.out.bw⟩
    · have t2 : ¬ (on : Int) ≤ 8 := by omega
      have HE : Hid (false = r) := Lib.hid (by cases r; rfl; exact absurd (HR.out.1 rfl).2.1 h2)
      go_wp2
      go_returns
      exact ⟨ret_bool (by rw [← HE.out]; (first | done | rfl | (simp; done) | (simp; omega))), HBB.out.bw⟩
  · have t1 : ¬ (cn : Int) ≤ 12 := by omega
    have HE : Hid (false = r) := Lib.hid (by cases r; rfl; exact absurd (HR.out.1 rfl).1 h1)
    go_wp2
    go_returns
    exact ⟨ret_bool (by rw [← HE.out]; (first | done | rfl | (simp; done) | (simp; omega))), HBB.out.bw⟩
/-- Is there a core that can be counted through? -/
def Fv.Rep (F : Fv) : Prop := 0 < F.N ∧ F.N = F.cn
theorem repeats_any (F : Fv) (w : World) (hF : F.At w) (r : Bool) (hr : r = true ↔ F.Rep) :
    Calls Try.prog 56 #[F.v] w fun e w' => e = .returned (.bool r) ∧ Below w.heap.size w w' := by
  have HR := Lib.hid hr
  clear hr
  obtain ⟨P, N, co, cn, cc, oo, on, oc, cs, os⟩ := F
  have LC : Hid (cs.length = cn) := Lib.hid hF.core.len
  have LO : Hid (os.length = on) := Lib.hid hF.odd.len
  obtain ⟨b, hb⟩ : ∃ b, w.heap.size = b := ⟨_, rfl⟩
  obtain ⟨wb, hwb⟩ : ∃ wb, w.alloc (.cells #[.int .i64 P, .int .i64 N, .slice co cn cc, .slice oo on oc] 25) = wb := ⟨_, rfl⟩
  have HBB : Hid (Fbox ⟨P, N, co, cn, cc, oo, on, oc, cs, os⟩ w wb b) := Lib.hid (by rw [← hwb, ← hb]; exact fbox_new hF)
  clear hF
  show Calls Try.prog 56 #[.agg #[.int .i64 P, .int .i64 N, .slice co cn cc, .slice oo on oc]] w _
  go_enter Try.func56, Try.ntmps56
  go_upto_region 1 with fail
  clear hwb hb
  have HR : Hid (r = true ↔ 0 < N ∧ N = cn) := HR
  have e1 : wb.cell? ⟨b, 1, none⟩ = some (.int .i64 N) := HBB.out.c1
  have e2 : wb.cell? ⟨b, 2, none⟩ = some (.slice co cn cc) := HBB.out.c2
  by_cases h1 : 0 < N
  · by_cases h2 : N = cn
    · have t2 : (N == (cn : Int)) = true := by simp; exact h2
      have HE : Hid (true = r) := Lib.hid (HR.out.2 ⟨h1, h2⟩).symm
      clear h2
      go_wp2
      go_returns
      exact ⟨ret_bool (by rw [← HE.out]; (first | done | rfl | (simp; done) | (simp; omega))), HBB.out.bw⟩
    · have t2 : (N == (cn : Int)) = false := by simp; exact h2
      have HE : Hid (false = r) := Lib.hid (by cases r; rfl; exact absurd (HR.out.1 rfl).2 h2)
      go_wp2
      go_returns
      exact ⟨ret_bool (by rw [← HE.out]; (first | done | rfl | (simp; done) | (simp; omega))), HBB.out.bw⟩
  · have HE : Hid (false = r) := Lib.hid (by cases r; rfl; exact absurd (HR.out.1 rfl).1 h1)
    go_wp2
    go_returns
    exact ⟨ret_bool (by rw [← HE.out]; (first | done | rfl | (simp; done) | (simp; omega))), HBB.out.bw⟩
/-- Are Period and Count in range, and has the core as many sets? -/
def Fv.Meas (F : Fv) : Prop := (F.N = 0 ∧ F.P = 0 ∧ F.cn = 0) ∨ (F.N ≠ 0 ∧ F.N = F.cn ∧ 1 ≤ F.P ∧ F.P ≤ 1099511627776)
set_option maxHeartbeats 1000000 in
theorem measured_any (F : Fv) (w : World) (hF : F.At w) (r : Bool) (hr : r = true ↔ F.Meas) :
    Calls Try.prog 42 #[F.v] w fun e w' => e = .returned (.bool r) ∧ Below w.heap.size w w' := by
  have HR := Lib.hid hr
  clear hr
  obtain ⟨P, N, co, cn, cc, oo, on, oc, cs, os⟩ := F
  have LC : Hid (cs.length = cn) := Lib.hid hF.core.len
  have LO : Hid (os.length = on) := Lib.hid hF.odd.len
  obtain ⟨b, hb⟩ : ∃ b, w.heap.size = b := ⟨_, rfl⟩
  obtain ⟨wb, hwb⟩ : ∃ wb, w.alloc (.cells #[.int .i64 P, .int .i64 N, .slice co cn cc, .slice oo on oc] 25) = wb := ⟨_, rfl⟩
  have HBB : Hid (Fbox ⟨P, N, co, cn, cc, oo, on, oc, cs, os⟩ w wb b) := Lib.hid (by rw [← hwb, ← hb]; exact fbox_new hF)
  clear hF
  show Calls Try.prog 42 #[.agg #[.int .i64 P, .int .i64 N, .slice co cn cc, .slice oo on oc]] w _
  go_enter Try.func42, Try.ntmps42
  go_upto_region 1 with fail
  clear hwb hb
  have HR : Hid (r = true ↔ (N = 0 ∧ P = 0 ∧ cn = 0) ∨ (N ≠ 0 ∧ N = cn ∧ 1 ≤ P ∧ P ≤ 1099511627776)) := HR
  have e0 : wb.cell? ⟨b, 0, none⟩ = some (.int .i64 P) := HBB.out.c0
  have e1 : wb.cell? ⟨b, 1, none⟩ = some (.int .i64 N) := HBB.out.c1
  have e2 : wb.cell? ⟨b, 2, none⟩ = some (.slice co cn cc) := HBB.out.c2
  by_cases h0 : N = 0
  · subst h0
    by_cases h1 : P = 0
    · subst h1
      by_cases h2 : cn = 0
      · subst h2
        have HE : Hid (true = r) := Lib.hid (HR.out.2 (.inl ⟨rfl, rfl, rfl⟩)).symm
        go_wp2
        go_returns
        exact ⟨ret_bool (by rw [← HE.out]; (first | done | rfl | (simp; done) | (simp; omega))), HBB.out.bw⟩
      · have t2 : ((cn : Int) == 0) = false := by simp; omega
        have HE : Hid (false = r) := Lib.hid (by cases r; rfl; have := HR.out.1 rfl; omega)
        go_wp2
        go_returns
        exact ⟨ret_bool (by rw [← HE.out]; (first | done | rfl | (simp; done) | (simp; omega))), HBB.out.bw⟩
    · have t1 : (P == 0) = false := by simp; exact h1
      have HE : Hid (false = r) := Lib.hid (by cases r; rfl; have := HR.out.1 rfl; omega)
      go_wp2
      go_returns
      exact ⟨ret_bool (by rw [← HE.out]; (first | done | rfl | (simp; done) | (simp; omega))), HBB.out.bw⟩
  · have t0 : (N == 0) = false := by simp; exact h0
    by_cases h1 : N = cn
    · have t1 : (N == (cn : Int)) = true := by simp; exact h1
      by_cases h2 : 1 ≤ P
      · by_cases h3 : P ≤ 1099511627776
        · have HE : Hid (true = r) := Lib.hid (HR.out.2 (.inr ⟨h0, h1, h2, h3⟩)).symm
          clear h1
          go_wp2
          go_returns
          exact ⟨ret_bool (by rw [← HE.out]; (first | done | rfl | (simp; done) | (simp; omega))), HBB.out.bw⟩
        · have HE : Hid (false = r) := Lib.hid (by cases r; rfl; have := HR.out.1 rfl; omega)
          clear h1
          go_wp2
          go_returns
          exact ⟨ret_bool (by rw [← HE.out]; (first | done | rfl | (simp; done) | (simp; omega))), HBB.out.bw⟩
      · have HE : Hid (false = r) := Lib.hid (by cases r; rfl; have := HR.out.1 rfl; omega)
        clear h1
        go_wp2
        go_returns
        exact ⟨ret_bool (by rw [← HE.out]; (first | done | rfl | (simp; done) | (simp; omega))), HBB.out.bw⟩
    · have t1 : (N == (cn : Int)) = false := by simp; exact h1
      have HE : Hid (false = r) := Lib.hid (by cases r; rfl; have := HR.out.1 rfl; omega)
      go_wp2
      go_returns
      exact ⟨ret_bool (by rw [← HE.out]; (first | done | rfl | (simp; done) | (simp; omega))), HBB.out.bw⟩
theorem wrong_any (ao : Option Addr) (n c : Nat) (l : List Sp) (w : World) (hl : SpAt w ao n c l) (r : Bool) (hr : r = true ↔ Good l) :
    Calls Try.prog 64 #[.slice ao n c] w fun e w' => e = .returned (.bool (!r)) ∧ Below w.heap.size w w' := by
  have K := Lib.hid (right_any ao n c l w hl r hr)
  clear hr hl
  cases r <;>
  · go_enter Try.func64, Try.ntmps64
    go_wp2_with fail
    (with_reducible refine K.out.mono ?_)
    rintro e w1 ⟨rfl, q⟩
    go_wp2
    go_returns
    exact ⟨rfl, q⟩
set_option maxHeartbeats 1000000 in
theorem index_any (co : Option Addr) (cn cc : Nat) (cs : List (List Sp)) (w : World) (hc : CoAt w co cn cc cs) :
    Calls Try.prog 81 #[.slice co cn cc, .func (.func 64) #[] #[]] w fun e w' => ∃ k : Int, e = .returned (.int .i64 k) ∧ Hid ((k < 0 ∧ ∀ l ∈ cs, Good l) ∨ (0 ≤ k ∧ ¬ ∀ l ∈ cs, Good l)) ∧ Below w.heap.size w w' := by
  have HC := Lib.hid hc
  have LC := Lib.hid hc.len
  have hmx : cn ≤ 9223372036854775807 := Nat.le_trans hc.le hc.top
  clear hc
  go_enter Try.func81, Try.ntmps81
  go_wp2
  go_loopw [8] (fun ii wr => ∃ i : Nat, i ≤ cn ∧ ii = .int .i64 i ∧ Hid (∀ l ∈ cs.take i, Good l) ∧ Hid (Below w.heap.size w wr)) (fun ii _ => cn - (intOf ii).toNat)
  case atStart => exact ⟨0, Nat.zero_le _, rfl, Lib.hid (fun l h => by cases h), Lib.hid (Below.refl _ _)⟩
  case round =>
    obtain ⟨i, hi, rfl, HG, HW⟩ := hrel
    by_cases ilt : i < cn
    · have HCW := HC.out.keep HW.out
      obtain ⟨g, p, rfl, hc⟩ := HCW.here (by omega)
      have hil : i < cs.length := by rw [LC.out]; exact ilt
      obtain ⟨o, m, d, d1, d2⟩ := hc i hil
      obtain ⟨r, hr⟩ : ∃ r : Bool, r = true ↔ Good cs[i] := by classical exact ⟨decide _, decide_eq_true_iff⟩
      have HD := Lib.hid (fun W (h : Below wr.heap.size wr W) => wrong_any o m d cs[i] W (d2.keep h) r hr)
      have i0 : (0 : Int) ≤ (i : Int) := by omega
      have i1 : (i : Int) < (cn : Int) := by omega
      have HI := Lib.hid hil
      have HM := Lib.hid (List.getElem_mem hil)
      have HR := Lib.hid hr
      have HTS := Lib.hid (List.take_succ_eq_append_getElem hil)
      clear hc d2 hr HCW
      cases r
      · have HNO : Hid (¬ ∀ l ∈ cs, Good l) := Lib.hid (fun h => by have := HR.out.2 (h _ HM.out); cases this)
        clear HR HM HTS
        clear hil
        go_wp2_with fail
        (with_reducible refine (HD.out _ (Below.refl _ _)).mono ?_)
        rintro e w2 ⟨rfl, q⟩
        have HW2 := Lib.hid (HW.out.trans (q.mono HW.out.size))
        go_wp2
        go_returns
        exact ⟨_, rfl, Lib.hid (.inr ⟨by omega, HNO.out⟩), HW2.out⟩
      · have HG2 : Hid (∀ l ∈ cs.take (i + 1), Good l) := Lib.hid (fun l hl => by
          rw [HTS.out] at hl
          rcases List.mem_append.1 hl with h | h
          · exact HG.out l h
          · rw [List.mem_singleton.1 h]; exact HR.out.1 rfl)
        clear HR HM HTS
        clear hil
        go_wp2_with fail
        (with_reducible refine (HD.out _ (Below.refl _ _)).mono ?_)
        rintro e w2 ⟨rfl, q⟩
        have HW2 := Lib.hid (HW.out.trans (q.mono HW.out.size))
        go_wp2
        go_roundw
        case rel => exact ⟨i + 1, by omega, by go_num, HG2, HW2⟩
        case measure => simp [intOf]; omega
    · obtain rfl : cn = i := by omega
      have HA : Hid (∀ l ∈ cs, Good l) := Lib.hid (by
        have h := HG.out
        rw [List.take_of_length_le (by rw [LC.out]; exact Nat.le_refl _)] at h
        exact h)
      go_wp2
      go_returns
      exact ⟨_, rfl, Lib.hid (.inl ⟨by omega, HA.out⟩), HW.out⟩
theorem contains_any (co : Option Addr) (cn cc : Nat) (cs : List (List Sp)) (w : World) (hc : CoAt w co cn cc cs) (r : Bool) (hr : r = true ↔ ∀ l ∈ cs, Good l) :
    Calls Try.prog 57 #[.slice co cn cc, .func (.func 64) #[] #[]] w fun e w' => e = .returned (.bool (!r)) ∧ Below w.heap.size w w' := by
  have K := Lib.hid (index_any co cn cc cs w hc)
  have HR := Lib.hid hr
  clear hc hr
  go_enter Try.func57, Try.ntmps57
  go_wp2_with fail
  (with_reducible refine K.out.mono ?_)
  rintro e w1 ⟨k, rfl, HK, q⟩
  rcases HK.out with ⟨h1, h2⟩ | ⟨h1, h2⟩
  · have HE : Hid (r = true) := Lib.hid (HR.out.2 h2)
    have t1 : ¬ 0 ≤ k := by omega
    clear h2 HK
    go_wp2
    go_returns
    exact ⟨ret_bool (by rw [HE.out]; (first | done | (simp; done) | (simp; omega))), q⟩
  · have HE : Hid (r = false) := Lib.hid (by cases r; rfl; exact absurd (HR.out.1 rfl) h2)
    clear h2 HK
    go_wp2
    go_returns
    exact ⟨ret_bool (by rw [HE.out]; (first | done | (simp; done) | (simp; omega))), q⟩
end Go.Proofs.Ytmjapbjjfhmohaa
