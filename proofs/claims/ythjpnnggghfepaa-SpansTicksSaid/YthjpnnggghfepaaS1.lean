/- Sets of ticks as sorted spans, plainly: right sets, what is in them, that each set is kept in one way; borders. -/
namespace Go.Proofs.Ythjpnnggghfepaa
set_option linter.unusedVariables false
abbrev Sp := Int × Int
/-- Right from a tick on. -/
def Rt (lo : Int) : List Sp → Prop
  | [] => True
  | s :: r => lo ≤ s.1 ∧ s.1 ≤ s.2 ∧ s.2 ≤ 1099511627776 ∧ Rt (s.2 + 2) r
abbrev Good (l : List Sp) : Prop := Rt (-1099511627776) l
def mem (l : List Sp) (t : Int) : Prop := ∃ s, s ∈ l ∧ s.1 ≤ t ∧ t ≤ s.2
theorem mem_nil (t : Int) : ¬ mem [] t := by rintro ⟨s, h, _⟩; cases h
theorem mem_cons (s : Sp) (r : List Sp) (t : Int) : mem (s :: r) t ↔ (s.1 ≤ t ∧ t ≤ s.2) ∨ mem r t := by
  constructor
  · rintro ⟨x, h, a, b⟩
    rcases List.mem_cons.1 h with rfl | h
    · exact .inl ⟨a, b⟩
    · exact .inr ⟨x, h, a, b⟩
  · rintro (⟨a, b⟩ | ⟨x, h, a, b⟩)
    · exact ⟨s, List.mem_cons_self .., a, b⟩
    · exact ⟨x, List.mem_cons_of_mem _ h, a, b⟩
theorem mem_append (a b : List Sp) (t : Int) : mem (a ++ b) t ↔ mem a t ∨ mem b t := by
  induction a with
  | nil => simp [mem_nil]
  | cons s r ih => rw [List.cons_append, mem_cons, mem_cons, ih]; exact (or_assoc).symm
theorem rt_mono {lo lo' : Int} (h : lo' ≤ lo) : ∀ {l : List Sp}, Rt lo l → Rt lo' l
  | [], _ => trivial
  | s :: r, ⟨a, b, c, d⟩ => ⟨by omega, b, c, d⟩
theorem rt_lo : ∀ {l : List Sp} {lo : Int}, Rt lo l → ∀ {t : Int}, mem l t → lo ≤ t ∧ t ≤ 1099511627776
  | [], _, _, t, h => absurd h (mem_nil t)
  | s :: r, lo, ⟨a, b, c, d⟩, t, h => by
    rcases (mem_cons s r t).1 h with ⟨x, y⟩ | h
    · omega
    · have := rt_lo d h; omega
/-- Each set of ticks is kept in one way. -/
theorem rt_unique : ∀ {a b : List Sp} {lo lo' : Int}, Rt lo a → Rt lo' b → (∀ t, mem a t ↔ mem b t) → a = b
  | [], [], _, _, _, _, _ => rfl
  | [], s :: r, _, _, _, ⟨a, b, c, d⟩, h => absurd ((h s.1).2 ((mem_cons s r s.1).2 (.inl ⟨by omega, by omega⟩))) (mem_nil _)
  | s :: r, [], _, _, ⟨a, b, c, d⟩, _, h => absurd ((h s.1).1 ((mem_cons s r s.1).2 (.inl ⟨by omega, by omega⟩))) (mem_nil _)
  | s :: r, s' :: r', lo, lo', ⟨a, b, c, d⟩, ⟨a', b', c', d'⟩, h => by
    have e1 : s.1 = s'.1 := by
      have x := (h s.1).1 ((mem_cons s r s.1).2 (.inl ⟨by omega, by omega⟩))
      have y := (h s'.1).2 ((mem_cons s' r' s'.1).2 (.inl ⟨by omega, by omega⟩))
      have x' := (rt_lo (lo := s'.1) (l := s' :: r') ⟨by omega, b', c', d'⟩ x).1
      have y' := (rt_lo (lo := s.1) (l := s :: r) ⟨by omega, b, c, d⟩ y).1
      omega
    have e2 : s.2 = s'.2 := by
      rcases Int.lt_trichotomy s.2 s'.2 with q | q | q
      · have x := (h (s.2 + 1)).2 ((mem_cons s' r' _).2 (.inl ⟨by omega, by omega⟩))
        rcases (mem_cons s r _).1 x with z | z
        · omega
        · have := (rt_lo d z).1; omega
      · exact q
      · have x := (h (s'.2 + 1)).1 ((mem_cons s r _).2 (.inl ⟨by omega, by omega⟩))
        rcases (mem_cons s' r' _).1 x with z | z
        · omega
        · have := (rt_lo d' z).1; omega
    obtain rfl : s = s' := Prod.ext e1 e2
    rw [rt_unique d d' (fun t => ⟨fun z => ?_, fun z => ?_⟩)]
    · have x := (h t).1 ((mem_cons s r t).2 (.inr z))
      have := (rt_lo d z).1
      rcases (mem_cons s r' t).1 x with y | y
      · omega
      · exact y
    · have x := (h t).2 ((mem_cons s r' t).2 (.inr z))
      have := (rt_lo d' z).1
      rcases (mem_cons s r t).1 x with y | y
      · omega
      · exact y
/-- From where on a further span is right. -/
def nxt (lo : Int) : List Sp → Int
  | [] => lo
  | s :: r => nxt (s.2 + 2) r
theorem rt_snoc : ∀ (l : List Sp) (lo : Int) (s : Sp), Rt lo (l ++ [s]) ↔ Rt lo l ∧ nxt lo l ≤ s.1 ∧ s.1 ≤ s.2 ∧ s.2 ≤ 1099511627776
  | [], lo, s => by simp [Rt, nxt]
  | x :: r, lo, s => by
    rw [List.cons_append]
    simp only [Rt, nxt, rt_snoc r]
    constructor
    · rintro ⟨a, b, c, d, e⟩; exact ⟨⟨a, b, c, d⟩, e⟩
    · rintro ⟨⟨a, b, c, d⟩, e⟩; exact ⟨a, b, c, d, e⟩
theorem nxt_snoc : ∀ (l : List Sp) (lo : Int) (s : Sp), nxt lo (l ++ [s]) = s.2 + 2
  | [], _, _ => rfl
  | x :: r, _, s => nxt_snoc r _ s
theorem nxt_le : ∀ {l : List Sp} {lo : Int}, Rt lo l → lo ≤ nxt lo l
  | [], _, _ => Int.le_refl _
  | s :: r, lo, ⟨a, b, c, d⟩ => by have := nxt_le d; simp only [nxt]; omega
theorem mem_nxt : ∀ {l : List Sp} {lo t : Int}, Rt lo l → mem l t → t + 2 ≤ nxt lo l
  | [], _, t, _, h => absurd h (mem_nil t)
  | s :: r, lo, t, ⟨a, b, c, d⟩, h => by
    simp only [nxt]
    rcases (mem_cons s r t).1 h with z | z
    · have := nxt_le d; omega
    · exact mem_nxt d z
/-- The n-th border. -/
def bd (l : List Sp) (n : Nat) : Int := if n % 2 = 0 then (l.getD (n / 2) (0, 0)).1 else (l.getD (n / 2) (0, 0)).2 + 1
/-- How many borders are not beyond a tick. -/
def cnt : List Sp → Int → Nat
  | [], _ => 0
  | s :: r, t => (if s.1 ≤ t then 1 else 0) + (if s.2 + 1 ≤ t then 1 else 0) + cnt r t
theorem cnt_low : ∀ {l : List Sp} {lo t : Int}, Rt lo l → t < lo → cnt l t = 0
  | [], _, _, _, _ => rfl
  | s :: r, lo, t, ⟨a, b, c, d⟩, h => by
    have := cnt_low d (t := t) (by omega)
    simp only [cnt, this]
    rw [if_neg (by omega), if_neg (by omega)]
theorem cnt_le : ∀ (l : List Sp) (t : Int), cnt l t ≤ 2 * l.length
  | [], _ => Nat.le_refl _
  | s :: r, t => by
    have := cnt_le r t
    simp only [cnt, List.length_cons]; split <;> split <;> omega
theorem cnt_mem : ∀ {l : List Sp} {lo : Int}, Rt lo l → ∀ t, mem l t ↔ cnt l t % 2 = 1
  | [], _, _, t => by simp [mem_nil, cnt]
  | s :: r, lo, ⟨a, b, c, d⟩, t => by
    rw [mem_cons]
    simp only [cnt]
    by_cases h1 : s.1 ≤ t
    · by_cases h2 : s.2 + 1 ≤ t
      · rw [if_pos h1, if_pos h2]
        have := cnt_mem d t
        constructor
        · rintro (z | z)
          · omega
          · have := this.1 z; omega
        · intro z; exact .inr (this.2 (by omega))
      · rw [if_pos h1, if_neg h2, cnt_low d (by omega)]
        exact ⟨fun _ => rfl, fun _ => .inl ⟨h1, by omega⟩⟩
    · have h2 : ¬ s.2 + 1 ≤ t := by omega
      rw [if_neg h1, if_neg h2, cnt_low d (by omega)]
      constructor
      · rintro (z | z)
        · omega
        · have := (rt_lo d z).1; omega
      · intro z; omega
theorem bd_zero (s : Sp) (r : List Sp) : bd (s :: r) 0 = s.1 := rfl
theorem bd_one (s : Sp) (r : List Sp) : bd (s :: r) 1 = s.2 + 1 := rfl
theorem bd_two (s : Sp) (r : List Sp) (n : Nat) : bd (s :: r) (n + 2) = bd r n := by
  unfold bd
  rw [show (n + 2) % 2 = n % 2 by omega, show (n + 2) / 2 = n / 2 + 1 by omega]
  rfl
/-- Beyond a tick there is one border next, and it is told by how many are not beyond it. -/
theorem bd_next : ∀ {l : List Sp} {lo : Int}, Rt lo l → ∀ T, cnt l T < 2 * l.length → T < bd l (cnt l T) ∧ (∀ t, T ≤ t → t < bd l (cnt l T) → cnt l t = cnt l T) ∧ cnt l (bd l (cnt l T)) = cnt l T + 1 ∧ lo ≤ bd l (cnt l T) ∧ bd l (cnt l T) ≤ 1099511627777
  | [], _, _, T, h => absurd h (Nat.not_lt_zero _)
  | s :: r, lo, ⟨a, b, c, d⟩, T, h => by
    by_cases h1 : s.1 ≤ T
    · by_cases h2 : s.2 + 1 ≤ T
      · have e : cnt (s :: r) T = cnt r T + 2 := by simp only [cnt, if_pos h1, if_pos h2]; omega
        rw [e] at h ⊢
        simp only [List.length_cons] at h
        have i := bd_next d T (by omega)
        rw [bd_two]
        refine ⟨i.1, fun t h3 h4 => ?_, ?_, by have := i.2.2.2.1; omega, i.2.2.2.2⟩
        · have := i.2.1 t h3 h4
          simp only [cnt]
          rw [if_pos (by omega), if_pos (by omega), this]; omega
        · have := i.2.2.1
          have := i.1
          simp only [cnt]
          rw [if_pos (by omega), if_pos (by omega), i.2.2.1]; omega
      · have e : cnt (s :: r) T = 1 := by simp only [cnt, if_pos h1, if_neg h2, cnt_low d (show T < s.2 + 2 by omega)]
        rw [e, bd_one]
        refine ⟨by omega, fun t h3 h4 => ?_, ?_, by omega, by omega⟩
        · simp only [cnt]
          rw [if_pos (by omega), if_neg (by omega), cnt_low d (by omega)]
        · simp only [cnt]
          rw [if_pos (by omega), if_pos (by omega), cnt_low d (by omega)]
    · have h2 : ¬ s.2 + 1 ≤ T := by omega
      have e : cnt (s :: r) T = 0 := by simp only [cnt, if_neg h1, if_neg h2, cnt_low d (show T < s.2 + 2 by omega)]
      rw [e, bd_zero]
      refine ⟨by omega, fun t h3 h4 => ?_, ?_, by omega, by omega⟩
      · simp only [cnt]
        rw [if_neg (by omega), if_neg (by omega), cnt_low d (by omega)]
      · simp only [cnt]
        rw [if_pos (by omega), if_neg (by omega), cnt_low d (by omega)]
theorem cnt_mono : ∀ (l : List Sp) {t u : Int}, t ≤ u → cnt l t ≤ cnt l u
  | [], _, _, _ => Nat.le_refl _
  | s :: r, t, u, h => by
    have := cnt_mono r h
    simp only [cnt]; split <;> split <;> split <;> split <;> omega
theorem cnt_all {l : List Sp} {T : Int} (h : cnt l T = 2 * l.length) {t : Int} (ht : T ≤ t) : cnt l t = 2 * l.length := by
  have := cnt_mono l ht; have := cnt_le l t; omega

/-- An event: a tick, and how it is from there on. -/
abbrev Ev := Int × Bool × Bool
def odd (n : Nat) : Bool := n % 2 == 1
/-- The events so far, and the last tick at which there was one. -/
inductive Run (a b : List Sp) : List Ev → Int → Prop
  | start : Run a b [] (-1099511627777)
  | more {E : List Ev} {T at_ : Int} : Run a b E T → T < at_ → at_ ≤ 1099511627777 → (∀ t, T ≤ t → t < at_ → cnt a t = cnt a T ∧ cnt b t = cnt b T) → Run a b (E ++ [(at_, odd (cnt a at_), odd (cnt b at_))]) at_
/-- What becomes of a set at an event. -/
def put (f : Bool → Bool → Bool) (st : List Sp × Int × Bool) (e : Ev) : List Sp × Int × Bool :=
  (if st.2.2 = true ∧ f e.2.1 e.2.2 = false then st.1 ++ [(st.2.1, e.1 - 1)] else st.1, if f e.2.1 e.2.2 = true ∧ st.2.2 = false then e.1 else st.2.1, f e.2.1 e.2.2)
def puts (f : Bool → Bool → Bool) (E : List Ev) : List Sp × Int × Bool := E.foldl (put f) ([], 0, false)
theorem puts_snoc (f : Bool → Bool → Bool) (E : List Ev) (e : Ev) : puts f (E ++ [e]) = put f (puts f E) e := by
  unfold puts; rw [List.foldl_append]; rfl
structure Kept (f : Bool → Bool → Bool) (a b : List Sp) (st : List Sp × Int × Bool) (T : Int) : Prop where
  right : Good st.1
  open_ : st.2.2 = f (odd (cnt a T)) (odd (cnt b T))
  from_ : st.2.2 = true → nxt (-1099511627776) st.1 ≤ st.2.1 ∧ st.2.1 ≤ T
  shut : st.2.2 = false → nxt (-1099511627776) st.1 ≤ T + 1
  ticks : ∀ t, t ≤ T → ((mem st.1 t ∨ (st.2.2 = true ∧ st.2.1 ≤ t)) ↔ f (odd (cnt a t)) (odd (cnt b t)) = true)
theorem run_le {a b : List Sp} {E : List Ev} {T : Int} (h : Run a b E T) : -1099511627777 ≤ T ∧ T ≤ 1099511627777 := by
  induction h with
  | start => omega
  | more _ h1 h2 _ ih => omega
theorem puts_kept {f : Bool → Bool → Bool} (hf : f false false = false) {a b : List Sp} (ha : Good a) (hb : Good b) {E : List Ev} {T : Int} (h : Run a b E T) : Kept f a b (puts f E) T := by
  induction h with
  | start =>
    refine ⟨trivial, ?_, (fun e => by cases e), fun _ => Int.le_refl _, fun t ht => ?_⟩
    · rw [cnt_low ha (by omega), cnt_low hb (by omega)]; exact hf.symm
    · rw [cnt_low ha (by omega), cnt_low hb (by omega)]
      show _ ↔ f false false = true
      rw [hf]
      constructor
      · rintro (z | z)
        · exact absurd z (mem_nil t)
        · cases z.1
      · intro z; cases z
  | @more E T x hr h1 h2 h3 ih =>
    rw [puts_snoc]
    obtain ⟨k1, k2, k3, k4, k5⟩ := ih
    generalize puts f E = st at *
    obtain ⟨R, fr, op⟩ := st
    simp only at k1 k2 k3 k4 k5
    -- between the last event and this one nothing changes
    have flat : ∀ t, T ≤ t → t < x → f (odd (cnt a t)) (odd (cnt b t)) = op := by
      intro t ha hb
      rw [(h3 t ha hb).1, (h3 t ha hb).2, k2]
    have bdT := run_le hr
    cases hop : op
    · subst hop
      have k4 := k4 rfl
      cases hw : f (odd (cnt a x)) (odd (cnt b x))
      · -- stays shut
        refine ⟨?_, ?_, ?_, ?_, fun t ht => ?_⟩
        · simpa [put, hw] using k1
        · simp [put, hw]
        · simp [put, hw]
        · intro _; simp [put, hw]; omega
        · simp only [put, hw]
          by_cases q : t ≤ T
          · simpa using k5 t q
          · have e : f (odd (cnt a t)) (odd (cnt b t)) = false := by
              by_cases q2 : t < x
              · exact flat t (by omega) q2
              · rw [show t = x by omega]; exact hw
            rw [e]
            have : ¬ mem R t := fun z => by have := mem_nxt k1 z; omega
            simp [this]
      · -- opens
        refine ⟨?_, ?_, ?_, ?_, fun t ht => ?_⟩
        · simpa [put, hw] using k1
        · simp [put, hw]
        · intro _; simp [put, hw]; omega
        · simp [put, hw]
        · simp only [put, hw]
          by_cases q : t ≤ T
          · have := k5 t q
            simp at this ⊢
            rw [← this]
            constructor
            · rintro (z | z)
              · exact z
              · omega
            · exact .inl
          · by_cases q2 : t < x
            · have e := flat t (by omega) q2
              rw [e]
              have : ¬ mem R t := fun z => by have := mem_nxt k1 z; omega
              simp [this]; omega
            · rw [show t = x by omega, hw]; simp
    · subst hop
      obtain ⟨k3a, k3b⟩ := k3 rfl
      cases hw : f (odd (cnt a x)) (odd (cnt b x))
      · -- shuts
        have hm : x - 1 ≤ 1099511627776 := by omega
        refine ⟨?_, ?_, ?_, ?_, fun t ht => ?_⟩
        · have : Good (R ++ [(fr, x - 1)]) := (rt_snoc R _ _).2 ⟨k1, k3a, by show fr ≤ x - 1; omega, hm⟩
          simpa [put, hw] using this
        · simp [put, hw]
        · simp [put, hw]
        · intro _; simp [put, hw, nxt_snoc]; omega
        · simp only [put, hw]
          by_cases q : t < x
          · have e : (mem R t ∨ fr ≤ t) ↔ f (odd (cnt a t)) (odd (cnt b t)) = true := by
              by_cases q2 : t ≤ T
              · simpa using k5 t q2
              · rw [flat t (by omega) q]
                exact ⟨fun _ => rfl, fun _ => .inr (by omega)⟩
            rw [← e]
            simp only [if_true, and_self, mem_append, mem_cons]
            constructor
            · rintro ((z | z) | z)
              · exact .inl z
              · rcases z with z | z
                · exact .inr z.1
                · exact absurd z (mem_nil t)
              · cases z.1
            · rintro (z | z)
              · exact .inl (.inl z)
              · exact .inl (.inr (.inl ⟨z, by show t ≤ x - 1; omega⟩))
          · have et : t = x := by omega
            subst et
            rw [hw]
            simp only [if_true, and_self, mem_append, mem_cons]
            constructor
            · rintro ((z | z) | z)
              · have := mem_nxt k1 z; omega
              · rcases z with z | z
                · have : t ≤ t - 1 := z.2
                  omega
                · exact absurd z (mem_nil t)
              · cases z.1
            · intro z; cases z
      · -- stays open
        refine ⟨?_, ?_, ?_, ?_, fun t ht => ?_⟩
        · simpa [put, hw] using k1
        · simp [put, hw]
        · intro _; simp [put, hw]; omega
        · simp [put, hw]
        · simp only [put, hw]
          by_cases q : t ≤ T
          · simpa using k5 t q
          · have e : f (odd (cnt a t)) (odd (cnt b t)) = true := by
              by_cases q2 : t < x
              · exact flat t (by omega) q2
              · rw [show t = x by omega]; exact hw
            rw [e]
            simp; right; omega
/-- What is kept, when all borders are over. -/
theorem puts_done {f : Bool → Bool → Bool} (hf : f false false = false) {a b : List Sp} (ha : Good a) (hb : Good b) {E : List Ev} {T : Int} (h : Run a b E T) (ea : cnt a T = 2 * a.length) (eb : cnt b T = 2 * b.length) :
    Good (puts f E).1 ∧ ∀ t, mem (puts f E).1 t ↔ f (decide (cnt a t % 2 = 1)) (decide (cnt b t % 2 = 1)) = true := by
  have k := puts_kept hf ha hb h
  have e1 : odd (2 * a.length) = false := by simp [odd]
  have e2 : odd (2 * b.length) = false := by simp [odd]
  have sh : (puts f E).2.2 = false := by rw [k.open_, ea, eb, e1, e2, hf]
  refine ⟨k.right, fun t => ?_⟩
  have eo : ∀ n : Nat, decide (n % 2 = 1) = odd n := fun n => by unfold odd; by_cases q : n % 2 = 1 <;> simp [q]
  rw [eo, eo]
  by_cases q : t ≤ T
  · rw [← k.ticks t q, sh]; simp
  · have z := k.shut sh
    have e3 := cnt_all ea (t := t) (by omega)
    have e4 := cnt_all eb (t := t) (by omega)
    rw [e3, e4, e1, e2, hf]
    constructor
    · intro y; have := mem_nxt k.right y; omega
    · intro y; cases y
end Go.Proofs.Ythjpnnggghfepaa
