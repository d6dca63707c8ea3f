/- TextsM in one. -/
import Derived.Test.YtllhcpkpbipjlaaDoorKt
namespace Go.Proofs.YtllhcpkpbipjlaaDoor
set_option linter.unusedVariables false
set_option linter.unusedSimpArgs false
open Cal (dg)

/-- A year's sign and digits. -/
def pre (y : Int) : List UInt8 := if 0 ≤ y then yl y.toNat [] else 45 :: yl (-y).toNat []
theorem pre_len (y : Int) : (0 ≤ y ∧ (pre y).length = 4) ∨ (y < 0 ∧ (pre y).length = 5) := by
  unfold pre yl
  by_cases c : 0 ≤ y
  · rw [if_pos c]; exact .inl ⟨c, rfl⟩
  · rw [if_neg c]; exact .inr ⟨by omega, rfl⟩
theorem txt_pre (y : Int) (m d : Nat) : txt y m d = pre y ++ mdl m d := by
  unfold txt pre yl
  split <;> rfl

theorem dg_of {a : UInt8} (h : 48 ≤ (a.toNat : Int) ∧ (a.toNat : Int) ≤ 57) {n : Nat} (e : (n : Int) = (a.toNat : Int) - 48) : dg n = a := by
  apply UInt8.toNat_inj.1
  rw [dg_nat (by omega)]
  omega

theorem yl_of {a b c d : UInt8} (h : fitY a b c d) (t : List UInt8) : ∃ v : Nat, (v : Int) = valY a b c d ∧ v < 10000 ∧ yl v t = a :: b :: c :: d :: t := by
  have bd := valY_bd h
  obtain ⟨v, hv⟩ := Int.eq_ofNat_of_zero_le bd.1
  refine ⟨v, hv.symm, by omega, ?_⟩
  unfold fitY at h
  unfold valY vd at hv
  obtain ⟨ha, hb, hc, hd⟩ := h
  unfold yl
  rw [dg_of ha (n := v / 1000) (by omega), dg_of hb (n := v / 100 % 10) (by omega), dg_of hc (n := v / 10 % 10) (by omega), dg_of hd (n := v % 10) (by omega)]

theorem tail_inv {Y n : Int} {t : List UInt8} (h : tailOf Y t = some n) :
    (∃ m d : Nat, m < 100 ∧ d < 100 ∧ t = mdl m d ∧ onDate Y m d = some n) ∨ (∃ k : Nat, k < 1000 ∧ t = ndl k ∧ onNth Y k = some n) ∨ (∃ k d : Nat, k < 100 ∧ d < 10 ∧ t = wdl k d ∧ onWeek Y k d = some n) := by
  unfold tailOf at h
  split at h
  · rename_i a b c d f g
    split at h
    · rename_i q
      unfold fitD at q
      obtain ⟨qa, qb, qc, qd, qf, qg⟩ := q
      refine .inl ⟨(vd b * 10 + vd c).toNat, (vd f * 10 + vd g).toNat, by unfold vd; omega, by unfold vd; omega, ?_, ?_⟩
      · unfold mdl vd
        rw [dg_of qb (by omega), dg_of qc (by omega), dg_of qf (by omega), dg_of qg (by omega)]
        rw [show a = 45 from UInt8.toNat_inj.1 (by simp; omega), show d = 45 from UInt8.toNat_inj.1 (by simp; omega)]
      · rw [Int.toNat_of_nonneg (by unfold vd; omega), Int.toNat_of_nonneg (by unfold vd; omega)]
        exact h
    · split at h
      · rename_i _ q
        unfold fitW at q
        obtain ⟨qa, qb, qc, qd, qf, qg⟩ := q
        refine .inr (.inr ⟨(vd c * 10 + vd d).toNat, (vd g).toNat, by unfold vd; omega, by unfold vd; omega, ?_, ?_⟩)
        · unfold wdl vd
          rw [dg_of qc (by omega), dg_of qd (by omega), dg_of qg (by omega)]
          rw [show a = 45 from UInt8.toNat_inj.1 (by simp; omega), show b = 87 from UInt8.toNat_inj.1 (by simp; omega), show f = 45 from UInt8.toNat_inj.1 (by simp; omega)]
        · rw [Int.toNat_of_nonneg (by unfold vd; omega), Int.toNat_of_nonneg (by unfold vd; omega)]
          exact h
      · cases h
  · rename_i a b c d
    split at h
    · rename_i q
      unfold fitN at q
      obtain ⟨qa, qb, qc, qd⟩ := q
      refine .inr (.inl ⟨((vd b * 10 + vd c) * 10 + vd d).toNat, by unfold vd; omega, ?_, ?_⟩)
      · unfold ndl vd
        rw [dg_of qb (by omega), dg_of qc (by omega), dg_of qd (by omega)]
        rw [show a = 45 from UInt8.toNat_inj.1 (by simp; omega)]
      · rw [Int.toNat_of_nonneg (by unfold vd; omega)]
        exact h
    · cases h
  · cases h

/-- A text that says a day is a year, and what is behind it. -/
theorem read_inv {x : List UInt8} {n : Int} (h : readOf x = some n) : ∃ Y t, -9999 ≤ Y ∧ Y ≤ 9999 ∧ x = pre Y ++ t ∧ tailOf Y t = some n := by
  unfold readOf at h
  have hx : x = (if Lib.hasPrefix x [45] = true then [45] else []) ++ Lib.trimPrefix x [45] := by
    unfold Lib.trimPrefix
    by_cases c : Lib.hasPrefix x [45] = true
    · rw [if_pos c, if_pos c]
      unfold Lib.hasPrefix at c
      cases x with
      | nil => simp at c
      | cons a t => simp [List.isPrefixOf] at c; rw [← c]; rfl
    · rw [if_neg c, if_neg c]; rfl
  generalize Lib.trimPrefix x [45] = r at *
  generalize Lib.hasPrefix x [45] = neg at *
  unfold restOf at h
  split at h
  · rename_i a b c d t
    split at h
    · rename_i q
      obtain ⟨v, hv, v1, hy⟩ := yl_of q t
      split at h
      · cases h
      · rename_i z
        rw [← hv] at h z
        cases neg
        · simp at h
          rw [if_neg (by decide)] at hx
          refine ⟨v, t, by omega, by omega, ?_, h⟩
          rw [hx, ← hy]
          unfold pre
          rw [if_pos (by omega)]
          rfl
        · simp at h z
          rw [if_pos rfl] at hx
          refine ⟨-(v : Int), t, by omega, by omega, ?_, h⟩
          rw [hx, ← hy]
          unfold pre
          rw [if_neg (by omega), show (- -(v : Int)).toNat = v by omega]
          rfl
    · cases h
  · cases h

theorem onDate_some {Y m d n : Int} (h : onDate Y m d = some n) : Cal.Valid Y m d ∧ Cal.num Y m d = n := by
  unfold onDate at h
  split at h
  · rename_i v; exact ⟨v, by simpa using h⟩
  · cases h
theorem onNth_some {Y k n : Int} (h : onNth Y k = some n) : -9999 ≤ Y ∧ Y ≤ 9999 ∧ 1 ≤ k ∧ k ≤ 365 + Cal.lp Y ∧ Cal.start Y + (k - 1) = n := by
  unfold onNth at h
  split at h
  · rename_i v; exact ⟨v.1, v.2.1, v.2.2.1, v.2.2.2, by simpa using h⟩
  · cases h
theorem onWeek_some {Y k d n : Int} (h : onWeek Y k d = some n) : 1 ≤ k ∧ k ≤ Cal.weeks Y ∧ 1 ≤ d ∧ d ≤ 7 ∧ -4371587 ≤ n ∧ n < 2932897 ∧ Cal.op Y + (k - 1) * 7 + (d - 1) = n := by
  unfold onWeek at h
  split at h
  · rename_i v
    split at h
    · rename_i r
      have e : Cal.op Y + (k - 1) * 7 + (d - 1) = n := by simpa using h
      exact ⟨v.1, v.2.1, v.2.2.1, v.2.2.2, by omega, by omega, e⟩
    · cases h
  · cases h

/-- The texts that say the day of a date: with month and day; with the day of the year; with a week. -/
theorem says {x : List UInt8} {y : Int} {m d : Nat} (v : Cal.Valid y m d) (h : readOf x = some (Cal.num y m d)) :
    x = txt y m d ∨ (∃ k : Nat, k < 1000 ∧ x = pre y ++ ndl k) ∨ (∃ (Y : Int) (k e : Nat), k < 100 ∧ e < 10 ∧ x = pre Y ++ wdl k e) := by
  obtain ⟨Y, t, y1, y2, rfl, ht⟩ := read_inv h
  rcases tail_inv ht with ⟨m', d', hm, hd, rfl, e⟩ | ⟨k, hk, rfl, e⟩ | ⟨k, w, hk, hw, rfl, e⟩
  · obtain ⟨v', e'⟩ := onDate_some e
    obtain ⟨rfl, em, ed⟩ := Cal.num_inj v' v e'
    left
    rw [txt_pre, show m' = m by omega, show d' = d by omega]
  · obtain ⟨a1, a2, k1, k2, e'⟩ := onNth_some e
    have wi := v.within
    have ss := Cal.start_succ Y
    have yz : Y = y := by
      rcases (show Y = y ∨ Y + 1 ≤ y ∨ y + 1 ≤ Y by omega) with q | q | q
      · exact q
      · have := Cal.start_mono (Y + 1) y q; omega
      · have := Cal.start_mono (y + 1) Y q; omega
    subst yz
    exact .inr (.inl ⟨k, hk, rfl⟩)
  · exact .inr (.inr ⟨Y, k, w, hk, hw, rfl⟩)

theorem no87_yl (y : Nat) (h : y < 10000) : 87 ∉ yl y [] := by
  have n87 : ∀ {n : Nat}, n < 10 → (87 : UInt8) ≠ dg n := fun {n} hn e => by
    have := dg_nat hn
    rw [← e] at this
    simp at this
    omega
  unfold yl
  simp only [List.mem_cons, List.not_mem_nil, or_false, not_or]
  exact ⟨n87 (by omega), n87 (by omega), n87 (by omega), n87 (by omega)⟩
theorem no87 {y : Int} {m d : Nat} (v : Cal.Valid y m d) (hm : m < 100) (hd : d < 100) : 87 ∉ txt y m d := by
  have n87 : ∀ {n : Nat}, n < 10 → (87 : UInt8) ≠ dg n := fun {n} hn e => by
    have := dg_nat hn
    rw [← e] at this
    simp at this
    omega
  have y1 := v.y1
  have y2 := v.y2
  rw [txt_pre, List.mem_append, not_or]
  constructor
  · unfold pre
    split
    · exact no87_yl _ (by omega)
    · rw [List.mem_cons, not_or]
      exact ⟨by decide, no87_yl _ (by omega)⟩
  · unfold mdl
    simp only [List.mem_cons, List.not_mem_nil, or_false, not_or]
    exact ⟨by decide, n87 (by omega), n87 (by omega), by decide, n87 (by omega), n87 (by omega)⟩
theorem in87 (Y : Int) (k d : Nat) : 87 ∈ pre Y ++ wdl k d := by
  rw [List.mem_append]
  right
  unfold wdl
  simp
/-- How a year's text begins. -/
theorem head_pre (Y : Int) (hY : -9999 ≤ Y ∧ Y ≤ 9999) (t : List UInt8) : ∃ a l, pre Y ++ t = a :: l ∧ ((Y < 0 ∧ a = 45) ∨ (0 ≤ Y ∧ a ≠ 45)) ∧ a ≠ 32 := by
  unfold pre yl
  by_cases c : 0 ≤ Y
  · rw [if_pos c]
    refine ⟨_, _, rfl, .inr ⟨c, dg_ne (by omega)⟩, fun e => ?_⟩
    have := dg_nat (n := Y.toNat / 1000) (by omega)
    rw [e] at this
    simp at this
    omega
  · rw [if_neg c]
    exact ⟨_, _, rfl, .inl ⟨by omega, rfl⟩, by decide⟩

theorem txt_len (y : Int) (m d : Nat) : ((0 ≤ y ∧ (txt y m d).length = 10) ∨ (y < 0 ∧ (txt y m d).length = 11)) := by
  rw [txt_pre, List.length_append]
  have := pre_len y
  have : (mdl m d).length = 6 := rfl
  omega


theorem t1 {y : Int} {m d : Nat} (v : Cal.Valid y m d) (hm : m < 100) (hd : d < 100) (k : Nat) (hk : k < (txt y m d).length) (c : UInt8) (h : readOf ((txt y m d).take k ++ c :: (txt y m d).drop (k + 1)) = some (Cal.num y m d)) :
    (txt y m d).take k ++ c :: (txt y m d).drop (k + 1) = txt y m d := by
  have L := txt_len y m d
  have pl := pre_len y
  rcases says v h with e | ⟨j, hj, e⟩ | ⟨Y, j, w, hj, hw, e⟩
  · exact e
  · exfalso
    have e := congrArg List.length e
    simp only [List.length_append, List.length_take, List.length_cons, List.length_drop] at e
    have : (ndl j).length = 4 := rfl
    omega
  · exfalso
    have el := congrArg List.length e
    simp only [List.length_append, List.length_take, List.length_cons, List.length_drop] at el
    have w6 : (wdl j w).length = 6 := rfl
    have pY := pre_len Y
    have lp : (pre Y).length = (pre y).length := by omega
    have g : ∀ i, (pre Y ++ wdl j w)[i]? = if i = k then some c else (txt y m d)[i]? := by
      intro i
      rw [← e]
      rw [show (txt y m d).take k ++ c :: (txt y m d).drop (k + 1) = (txt y m d).set k c by rw [List.set_eq_take_append_cons_drop, if_pos hk], List.getElem?_set]
      by_cases q : k = i
      · subst q; simp; exact hk
      · rw [if_neg q, if_neg (fun z => q z.symm)]
    have g1 := g ((pre y).length + 1)
    have g3 := g ((pre y).length + 3)
    rw [txt_pre, List.getElem?_append_right (by omega), List.getElem?_append_right (by omega)] at g1 g3
    rw [show (pre y).length + 1 - (pre Y).length = 1 by omega, show (pre y).length + 1 - (pre y).length = 1 by omega] at g1
    rw [show (pre y).length + 3 - (pre Y).length = 3 by omega, show (pre y).length + 3 - (pre y).length = 3 by omega] at g3
    simp only [wdl, mdl] at g1 g3
    by_cases q : (pre y).length + 1 = k
    · rw [if_neg (by omega)] at g3
      have g3 : dg (j % 10) = 45 := by simpa using g3
      exact dg_ne (by omega) g3
    · rw [if_neg q] at g1
      have g1 : (87 : UInt8) = dg (m / 10) := by simpa using g1
      have := dg_nat (n := m / 10) (by omega)
      rw [← g1] at this
      simp at this
      omega

theorem t2 {y : Int} {m d : Nat} (v : Cal.Valid y m d) (hm : m < 100) (hd : d < 100) (k : Nat) (hk : k < (txt y m d).length) : readOf ((txt y m d).take k ++ (txt y m d).drop (k + 1)) ≠ some (Cal.num y m d) := by
  intro h
  have L := txt_len y m d
  have pl := pre_len y
  rcases says v h with e | ⟨j, hj, e⟩ | ⟨Y, j, w, hj, hw, e⟩
  · have e := congrArg List.length e
    simp only [List.length_append, List.length_take, List.length_cons, List.length_drop] at e
    omega
  · have e := congrArg List.length e
    simp only [List.length_append, List.length_take, List.length_cons, List.length_drop] at e
    have : (ndl j).length = 4 := rfl
    omega
  · have h87 := in87 Y j w
    rw [← e, List.mem_append] at h87
    rcases h87 with q | q
    · exact no87 v hm hd (List.mem_of_mem_take q)
    · exact no87 v hm hd (List.mem_of_mem_drop q)

/-- A text that is longer by one byte, and says a day by a week, begins with a sign that was none. -/
theorem longer {y : Int} {m d : Nat} (v : Cal.Valid y m d) {x : List UInt8} (hx : x.length = (txt y m d).length + 1) (h : readOf x = some (Cal.num y m d)) :
    0 ≤ y ∧ 87 ∈ x ∧ ∃ l, x = 45 :: l := by
  have L := txt_len y m d
  have pl := pre_len y
  obtain ⟨Y0, t0, y1, y2, e0, -⟩ := read_inv h
  rcases says v h with e | ⟨j, hj, e⟩ | ⟨Y, j, w, hj, hw, e⟩
  · rw [e] at hx; omega
  · rw [e] at hx
    simp only [List.length_append] at hx
    have : (ndl j).length = 4 := rfl
    omega
  · have pY := pre_len Y
    have el := congrArg List.length e
    simp only [List.length_append] at el
    have : (wdl j w).length = 6 := rfl
    refine ⟨by omega, by rw [e]; exact in87 Y j w, ?_⟩
    rw [e]
    unfold pre
    rw [if_neg (by omega)]
    exact ⟨_, rfl⟩
theorem t3 {y : Int} {m d : Nat} (v : Cal.Valid y m d) (hm : m < 100) (hd : d < 100) (k : Nat) (hk : k < (txt y m d).length) (c : UInt8) : readOf ((txt y m d).take k ++ c :: (txt y m d).drop k) ≠ some (Cal.num y m d) := by
  intro h
  obtain ⟨y0, h87, l, e⟩ := longer v (by simp only [List.length_append, List.length_take, List.length_cons, List.length_drop]; omega) h
  have hc : c = 87 := by
    rcases List.mem_append.1 h87 with q | q
    · exact absurd (List.mem_of_mem_take q) (no87 v hm hd)
    · rcases List.mem_cons.1 q with q | q
      · exact q.symm
      · exact absurd (List.mem_of_mem_drop q) (no87 v hm hd)
  subst hc
  obtain ⟨a, r, hr, ha, -⟩ := head_pre y ⟨v.y1, v.y2⟩ (mdl m d)
  rw [← txt_pre] at hr
  rw [hr] at e
  cases k with
  | zero => simp at e
  | succ k =>
    simp at e
    rcases ha with ha | ha
    · omega
    · exact ha.2 e.1
theorem t4 {y : Int} {m d : Nat} (v : Cal.Valid y m d) (hm : m < 100) (hd : d < 100) : readOf (txt y m d ++ [45]) ≠ some (Cal.num y m d) := by
  intro h
  obtain ⟨y0, h87, l, e⟩ := longer v (by simp) h
  rcases List.mem_append.1 h87 with q | q
  · exact no87 v hm hd q
  · simp at q
theorem t5 {y : Int} {m d : Nat} (v : Cal.Valid y m d) (hm : m < 100) (hd : d < 100) : readOf (32 :: txt y m d) ≠ some (Cal.num y m d) := by
  intro h
  obtain ⟨y0, h87, l, e⟩ := longer v (by simp) h
  rw [List.cons.injEq] at e
  exact absurd e.1 (by decide)
end Go.Proofs.YtllhcpkpbipjlaaDoor
