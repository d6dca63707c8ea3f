/- Contracts over networks that came in as they are: allowed, May, Right (the program's, the document's). -/
import Derived.Test.YtnhbinghinlhgaaOwn
namespace Go.Proofs.Ytnhbinghinlhgaa
set_option linter.unusedVariables false
set_option linter.unusedSimpArgs false
open Go.ChangeShapes Go.WideShapes Go.ChangeAt Go.RowKit

theorem allowedB_iff (i n : Int) : allowedB i n = true ↔ (i = 1 ∧ n = 0) ∨ (i = 0 ∧ -1125899906842624 ≤ n ∧ n ≤ 1125899906842624) := by
  simp only [allowedB, rightB, Bool.and_eq_true, Bool.or_eq_true, beq_iff_eq, decide_eq_true_eq]
  omega
theorem allowed_any (i n : Int) (w : World) :
    Calls Try.prog 25 #[.agg #[.int .i8 i, .int .i64 n]] w fun e w' => e = .returned (.bool (allowedB i n)) ∧ Below w.heap.size w w' := by
  cases hr : rightB i n
  · have HA : Hid (allowedB i n = false) := Lib.hid (by simp [allowedB, hr])
    have R := Lib.hid hr
    clear hr
    go_enter Try.func25, Try.ntmps25
    go_wp2_with (go_at_call 33; (with_reducible refine (right_no _ _ _ R.out).mono ?_); rintro e w' ⟨rfl, rfl⟩)
    go_returns
    exact ⟨ret_bool (by rw [HA.out] <;> simp <;> omega), by go_grown⟩
  · by_cases h1 : 0 ≤ i
    · by_cases h2 : -1125899906842624 ≤ n
      · by_cases h3 : n ≤ 1125899906842624
        · have e : allowedB i n = true := by simp [allowedB, hr, h1, h2, h3]
          rw [e]
          exact allowed_yes i n hr h1 h2 h3 w
        · have HA : Hid (allowedB i n = false) := Lib.hid (by simp [allowedB, h3])
          have R := Lib.hid hr
          clear hr
          go_enter Try.func25, Try.ntmps25
          go_wp2_with (go_at_call 33; (with_reducible refine (right_yes _ _ _ R.out).mono ?_); rintro e w' ⟨rfl, rfl⟩)
          go_returns
          exact ⟨ret_bool (by rw [HA.out] <;> simp <;> omega), by go_grown⟩
      · have HA : Hid (allowedB i n = false) := Lib.hid (by simp [allowedB, h2])
        have R := Lib.hid hr
        clear hr
        go_enter Try.func25, Try.ntmps25
        go_wp2_with (go_at_call 33; (with_reducible refine (right_yes _ _ _ R.out).mono ?_); rintro e w' ⟨rfl, rfl⟩)
        go_returns
        exact ⟨ret_bool (by rw [HA.out] <;> simp <;> omega), by go_grown⟩
    · have HA : Hid (allowedB i n = false) := Lib.hid (by simp [allowedB, h1])
      have R := Lib.hid hr
      clear hr
      go_enter Try.func25, Try.ntmps25
      go_wp2_with (go_at_call 33; (with_reducible refine (right_yes _ _ _ R.out).mono ?_); rintro e w' ⟨rfl, rfl⟩)
      go_returns
      exact ⟨ret_bool (by rw [HA.out] <;> simp <;> omega), by go_grown⟩
theorem may_any (i n : Int) (w : World) :
    Calls Try.prog 15 #[.agg #[.int .i8 i, .int .i64 n]] w fun e w' => e = .returned (.bool (allowedB i n)) ∧ Below w.heap.size w w' := by
  obtain ⟨r, hr⟩ : ∃ r, allowedB i n = r := ⟨_, rfl⟩
  have HR := Lib.hid (hr ▸ allowedB_iff i n)
  rw [hr]
  clear hr
  by_cases h1 : i = 1
  · have t1 : (i == 1) = true := by simpa using h1
    have HE : Hid ((n == 0) = r) := Lib.hid (by
      have := HR.out
      cases r
      · simp only [Bool.false_eq_true, false_iff, not_or, not_and] at this
        simp; intro e; exact this.1 h1 e
      · have := this.1 rfl
        simp; omega)
    clear h1
    go_enter Try.func15, Try.ntmps15
    go_wp2
    go_returns
    exact ⟨ret_bool HE.out, by go_grown⟩
  · have t1 : (i == 1) = false := by simpa using h1
    by_cases h2 : i = 0
    · have t2 : (i == 0) = true := by simpa using h2
      by_cases h3 : -1125899906842624 ≤ n
      · have HE : Hid (decide (n ≤ 1125899906842624) = r) := Lib.hid (by
          have := HR.out
          cases r
          · simp only [Bool.false_eq_true, false_iff] at this
            simp; omega
          · have := this.1 rfl
            simp; omega)
        clear h1 h2
        go_enter Try.func15, Try.ntmps15
        go_wp2
        all_goals go_returns
        all_goals exact ⟨ret_bool (by rw [← HE.out]), by go_grown⟩
      · have HE : Hid (false = r) := Lib.hid (by
          have := HR.out
          cases r
          · rfl
          · have := this.1 rfl
            omega)
        clear h1 h2
        go_enter Try.func15, Try.ntmps15
        go_wp2
        all_goals go_returns
        all_goals exact ⟨ret_bool (by rw [← HE.out]), by go_grown⟩
    · have t2 : (i == 0) = false := by simpa using h2
      have HE : Hid (false = r) := Lib.hid (by
        have := HR.out
        cases r
        · rfl
        · have := this.1 rfl
          omega)
      clear h1 h2
      go_enter Try.func15, Try.ntmps15
      go_wp2
      all_goals go_returns
      all_goals exact ⟨ret_bool (by rw [← HE.out]), by go_grown⟩
theorem wrong_any (i n : Int) (w : World) :
    Calls Try.prog 24 #[.agg #[.int .i8 i, .int .i64 n]] w fun e w' => e = .returned (.bool (!allowedB i n)) ∧ Below w.heap.size w w' := by
  obtain ⟨r, hr⟩ : ∃ r, allowedB i n = r := ⟨_, rfl⟩
  have A := Lib.hid (fun w => hr ▸ allowed_any i n w)
  rw [hr]
  clear hr
  go_enter Try.func24, Try.ntmps24
  go_wp2_with (go_at_call 25; (with_reducible refine (A.out _).mono ?_); rintro e w1 ⟨rfl, b1⟩)
  go_returns
  exact ⟨rfl, ((Below.refl _ w).alloc (Nat.le_refl _) _).trans (b1.mono (by simp))⟩

/-- A row that came in. -/
structure RawRow (w : World) (b p n : Nat) (x y : Nat → Int) : Prop where
  inf : ∀ j, j < n → w.cell? ⟨b, p + j * 2, none⟩ = some (.int .i8 (x j))
  num : ∀ j, j < n → w.cell? ⟨b, p + j * 2 + 1, none⟩ = some (.int .i64 (y j))
theorem RawRow.keep {w w' : World} {b p n : Nat} {x y : Nat → Int} (h : RawRow w b p n x y) (k : Below w.heap.size w w') : RawRow w' b p n x y :=
  ⟨fun j hj => cell_keep (h.inf j hj) k, fun j hj => cell_keep (h.num j hj) k⟩

set_option maxHeartbeats 1000000 in
theorem index_raw (b p n c : Nat) (x y : Nat → Int) (hn : n ≤ 24) (hc : n ≤ c) (hc' : c ≤ 9223372036854775807) (w : World) (hw : RawRow w b p n x y) (r : Bool) (hr : r = true ↔ ∃ j, j < n ∧ allowedB (x j) (y j) = false) :
    Calls Try.prog 34 #[.slice (some ⟨b, p, none⟩) n c, .func (.func 24) #[] #[]] w fun e w' => ∃ k : Int, (decide (0 ≤ k) = r ∧ -1 ≤ k) ∧ e = .returned (.int .i64 k) ∧ Below w.heap.size w w' := by
  have HR := Lib.hid hr
  have HW := Lib.hid hw
  clear hr hw
  go_enter Try.func34, Try.ntmps34
  go_wp2
  go_loopw [8] (fun i wr => ∃ k : Nat, k ≤ n ∧ i = .int .i64 k ∧ Hid (∀ j, j < k → allowedB (x j) (y j) = true) ∧ Hid (Below w.heap.size w wr)) (fun i _ => n - (intOf i).toNat)
  case atStart => exact ⟨0, Nat.zero_le _, rfl, Lib.hid (fun j h => absurd h (Nat.not_lt_zero _)), Lib.hid (Below.refl _ _)⟩
  case round =>
    obtain ⟨k, hk, rfl, HK, HB⟩ := hrel
    by_cases hlt : k < n
    · have c1 := (HW.out.keep HB.out).inf k hlt
      have c2 := (HW.out.keep HB.out).num k hlt
      cases ha : allowedB (x k) (y k)
      · have HD : Hid (decide (0 ≤ (k : Int)) = r ∧ -1 ≤ (k : Int)) := Lib.hid ⟨by rw [HR.out.2 ⟨k, hlt, ha⟩]; simp, by omega⟩
        have A := Lib.hid (fun w => ha ▸ wrong_any (x k) (y k) w)
        clear HK ha
        generalize x k = X at *
        generalize y k = Y at *
        have A2 : Hid (∀ w, Calls Try.prog 24 #[.agg #[.int .i8 X, .int .i64 Y]] w fun e w' => e = .returned (.bool true) ∧ Below w.heap.size w w') := A
        clear A
        go_wp2_with (go_at_call 24; (with_reducible refine (A2.out _).mono ?_); rintro e w1 ⟨rfl, b1⟩; have HB1 := Lib.hid (HB.out.trans (b1.mono HB.out.size)); clear b1)
        go_returns
        exact ⟨k, HD.out, rfl, HB1.out⟩
      · have HK2 := Lib.hid (show ∀ j, j < k + 1 → allowedB (x j) (y j) = true from fun j hj => by
          by_cases q : j = k
          · subst q; exact ha
          · exact HK.out j (by omega))
        have A := Lib.hid (fun w => ha ▸ wrong_any (x k) (y k) w)
        clear HK ha
        obtain ⟨X, hX⟩ : ∃ X, x k = X := ⟨_, rfl⟩
        obtain ⟨Y, hY⟩ : ∃ Y, y k = Y := ⟨_, rfl⟩
        rw [hX] at c1 A
        rw [hY] at c2 A
        clear hX hY
        have A2 : Hid (∀ w, Calls Try.prog 24 #[.agg #[.int .i8 X, .int .i64 Y]] w fun e w' => e = .returned (.bool false) ∧ Below w.heap.size w w') := A
        clear A
        go_wp2_with (go_at_call 24; (with_reducible refine (A2.out _).mono ?_); rintro e w1 ⟨rfl, b1⟩; have HB1 := Lib.hid (HB.out.trans (b1.mono HB.out.size)); clear b1)
        go_roundw
        case rel => exact ⟨k + 1, by omega, by go_num, HK2, HB1⟩
        case measure => simp [intOf]; omega
    · have HD : Hid (decide (0 ≤ (-1 : Int)) = r ∧ -1 ≤ (-1 : Int)) := Lib.hid ⟨(by
        cases r
        · rfl
        · obtain ⟨j, hj, e⟩ := HR.out.1 rfl
          rw [HK.out j (by omega)] at e
          cases e), by omega⟩
      go_wp2
      go_returns
      exact ⟨-1, HD.out, rfl, HB.out⟩
theorem contains_raw (b p n c : Nat) (x y : Nat → Int) (hn : n ≤ 24) (hc : n ≤ c) (hc' : c ≤ 9223372036854775807) (w : World) (hw : RawRow w b p n x y) (r : Bool) (hr : r = true ↔ ∃ j, j < n ∧ allowedB (x j) (y j) = false) :
    Calls Try.prog 26 #[.slice (some ⟨b, p, none⟩) n c, .func (.func 24) #[] #[]] w fun e w' => e = .returned (.bool r) ∧ Below w.heap.size w w' := by
  have I := Lib.hid (index_raw b p n c x y hn hc hc' w hw r hr)
  clear hr hw
  go_enter Try.func26, Try.ntmps26
  go_wp2_with (go_at_call 34; (with_reducible refine (I.out).mono ?_); rintro e w1 ⟨q, hq, rfl, b1⟩; have HQ := Lib.hid hq; clear hq)
  go_returns
  exact ⟨ret_bool (by rw [← HQ.out.1]), b1⟩

/-- A network that came in: rows as they are. -/
structure RawNet (w : World) (ao : Option Addr) (N k : Nat) (ra : Nat → Option Addr) (L c : Nat → Nat) (X Y : Nat → Nat → Int) : Prop where
  le : N ≤ k
  top : k ≤ 9223372036854775807
  bare : ao = none → N = 0 ∧ k = 0
  rows : 0 < N → ∃ g o, ao = some ⟨g, o, none⟩ ∧ ∀ i, i < N → w.cell? ⟨g, o + i, none⟩ = some (.slice (ra i) (L i) (c i))
  cap : ∀ i, i < N → L i ≤ c i ∧ c i ≤ 9223372036854775807 ∧ (ra i = none → L i = 0 ∧ c i = 0)
  cells : ∀ i, i < N → 0 < L i → ∃ b p, ra i = some ⟨b, p, none⟩ ∧ RawRow w b p (L i) (X i) (Y i)
theorem RawNet.keep {w w' : World} {ao : Option Addr} {N k : Nat} {ra : Nat → Option Addr} {L c : Nat → Nat} {X Y : Nat → Nat → Int} (h : RawNet w ao N k ra L c X Y) (b : Below w.heap.size w w') : RawNet w' ao N k ra L c X Y :=
  ⟨h.le, h.top, h.bare, fun h0 => by obtain ⟨g, o, e, q⟩ := h.rows h0; exact ⟨g, o, e, fun i hi => cell_keep (q i hi) b⟩, h.cap, fun i hi h0 => by obtain ⟨g, o, e, q⟩ := h.cells i hi h0; exact ⟨g, o, e, q.keep b⟩⟩
/-- Is it a network that the document allows? -/
def RightIs (N : Nat) (L : Nat → Nat) (X Y : Nat → Nat → Int) : Prop := N ≤ 24 ∧ ∀ i, i < N → L i = N ∧ ∀ j, j < N → allowedB (X i j) (Y i j) = true

set_option maxHeartbeats 2000000 in
theorem right_raw (ao : Option Addr) (N k : Nat) (ra : Nat → Option Addr) (L c : Nat → Nat) (X Y : Nat → Nat → Int) (w : World) (hw : RawNet w ao N k ra L c X Y) (r : Bool) (hr : r = true ↔ RightIs N L X Y) :
    Calls Try.prog 11 #[.slice ao N k] w fun e w' => e = .returned (.bool r) ∧ Below w.heap.size w w' := by
  have HW := Lib.hid hw
  have HR := Lib.hid hr
  clear hw hr
  by_cases h24 : N ≤ 24
  · have t1 : ¬ (24 : Int) < (N : Int) := by omega
    go_enter Try.func11, Try.ntmps11
    go_wp2
    go_loopw [11] (fun i wr => ∃ k : Nat, k ≤ N ∧ i = .int .i64 k ∧ Hid (∀ i, i < k → L i = N ∧ ∀ j, j < N → allowedB (X i j) (Y i j) = true) ∧ Hid (Below w.heap.size w wr)) (fun i _ => N - (intOf i).toNat)
    case atStart => exact ⟨0, Nat.zero_le _, rfl, Lib.hid (fun j h => absurd h (Nat.not_lt_zero _)), Lib.hid (Below.refl _ _)⟩
    case round =>
      obtain ⟨i, hi, rfl, HK, HB⟩ := hrel
      by_cases hlt : i < N
      · have HN := Lib.hid (HW.out.keep HB.out)
        obtain ⟨g, o, rfl, hrow⟩ := HN.out.rows (by omega)
        have c1 := hrow i hlt
        have i0 : (0 : Int) ≤ (i : Int) := by omega
        have i1 : (i : Int) < (N : Int) := by omega
        clear hrow
        by_cases hL : L i = N
        · obtain ⟨b, p, hra, hcells⟩ := HN.out.cells i hlt (by omega)
          obtain ⟨q1, q2, _⟩ := HN.out.cap i hlt
          rw [hra, hL] at c1
          rw [hL] at q1 hcells
          have t2 : ((N : Int) != (N : Int)) = false := by simp
          obtain ⟨s, hs⟩ : ∃ s : Bool, (s = true ↔ ∃ j, j < N ∧ allowedB (X i j) (Y i j) = false) := by
            by_cases q : ∃ j, j < N ∧ allowedB (X i j) (Y i j) = false
            · exact ⟨true, by simp [q]⟩
            · exact ⟨false, by simp [q]⟩
          have C := Lib.hid (contains_raw b p N (c i) (X i) (Y i) h24 q1 q2 wr hcells s hs)
          cases s
          · have HK2 := Lib.hid (show ∀ a, a < i + 1 → L a = N ∧ ∀ j, j < N → allowedB (X a j) (Y a j) = true from fun a ha => by
              by_cases q : a = i
              · subst q
                refine ⟨hL, fun j hj => ?_⟩
                cases e : allowedB (X a j) (Y a j)
                · exact absurd (hs.2 ⟨j, hj, e⟩) (by decide)
                · rfl
              · exact HK.out a (by omega))
            clear hs hL hra hcells q1 q2 HK
            generalize c i = ci at *
            go_wp2_with (go_at_call 26; (with_reducible refine (C.out).mono ?_); rintro e w1 ⟨rfl, b1⟩; have HB1 := Lib.hid (HB.out.trans (b1.mono HB.out.size)); clear b1)
            go_roundw
            case rel => exact ⟨i + 1, by omega, by go_num, HK2, HB1⟩
            case measure => simp [intOf]; omega
          · have HF : Hid (false = r) := Lib.hid (by
              cases r
              · rfl
              · obtain ⟨j, hj, e⟩ := hs.1 rfl
                rw [((HR.out.1 rfl).2 i hlt).2 j hj] at e
                cases e)
            clear hs hL hra hcells q1 q2 HK
            generalize c i = ci at *
            go_wp2_with (go_at_call 26; (with_reducible refine (C.out).mono ?_); rintro e w1 ⟨rfl, b1⟩; have HB1 := Lib.hid (HB.out.trans (b1.mono HB.out.size)); clear b1)
            go_returns
            exact ⟨ret_bool HF.out, HB1.out⟩
        · have t2 : ((L i : Int) != (N : Int)) = true := by simp; omega
          have HF : Hid (false = r) := Lib.hid (by
            cases r
            · rfl
            · exact absurd ((HR.out.1 rfl).2 i hlt).1 hL)
          clear hL HK
          generalize c i = ci at *
          generalize L i = li at *
          generalize ra i = ri at *
          go_wp2
          go_returns
          exact ⟨ret_bool HF.out, HB.out⟩
      · have HF : Hid (true = r) := Lib.hid (by
          cases r
          · exact (HR.out.2 ⟨h24, fun a ha => HK.out a (by omega)⟩).symm
          · rfl)
        go_wp2
        go_returns
        exact ⟨ret_bool HF.out, HB.out⟩
  · have t1 : (24 : Int) < (N : Int) := by omega
    have HF : Hid (false = r) := Lib.hid (by
      cases r
      · rfl
      · exact absurd (HR.out.1 rfl).1 h24)
    go_enter Try.func11, Try.ntmps11
    go_wp2
    go_returns
    exact ⟨ret_bool HF.out, by go_grown⟩
end Go.Proofs.Ytnhbinghinlhgaa
