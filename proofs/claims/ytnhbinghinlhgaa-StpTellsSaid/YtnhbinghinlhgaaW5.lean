/- Contracts: the document's Close. -/
import Derived.Test.YtnhbinghinlhgaaW4
namespace Go.Proofs.Ytnhbinghinlhgaa
set_option linter.unusedVariables false
set_option linter.unusedSimpArgs false
open Go.ChangeShapes Go.WideShapes Go.ChangeAt Go.RowKit
/-- The least lengths, 0 for a variable and itself. -/
def ways (n : Nat) (M : Mat) : Mat := fun i j => if i = j then some 0 else way n M i j
theorem cells_new2 (w : World) (x y : Value) (t : TypeId) : ∀ (j : Nat) (u : Value), [x, y][j]? = some u → (w.alloc (.cells #[x, y] t)).cell? ((⟨w.heap.size, 0, none⟩ : Addr).add j) = some u := by
  intro j u hu
  rw [add_off, Nat.zero_add]
  match j with
  | 0 => cases hu; exact (box_cells w x y t).1
  | 1 => cases hu; exact (box_cells w x y t).2
  | j + 2 => simp at hu
/-- Rows that have been laid. -/
def rowVals (b c : Nat → Nat) (n : Nat) : Nat → List Value
  | 0 => []
  | i + 1 => rowVals b c n i ++ [.slice (some ⟨b i, 0, none⟩) n (c i)]
theorem rowVals_length (b c : Nat → Nat) (n : Nat) : ∀ i, (rowVals b c n i).length = i
  | 0 => rfl
  | i + 1 => by simp [rowVals, rowVals_length b c n i]
theorem rowVals_at (b c : Nat → Nat) (n : Nat) : ∀ i t, t < i → (rowVals b c n i)[t]? = some (.slice (some ⟨b t, 0, none⟩) n (c t))
  | i + 1, t, h => by
    have l := rowVals_length b c n i
    by_cases q : t = i
    · subst q
      rw [rowVals, List.getElem?_append_right (by omega), l]
      simp
    · rw [rowVals, List.getElem?_append_left (by omega)]
      exact rowVals_at b c n i t (by omega)
theorem rowVals_ext {b c b' c' : Nat → Nat} {n : Nat} : ∀ i, (∀ t, t < i → b t = b' t ∧ c t = c' t) → rowVals b c n i = rowVals b' c' n i
  | 0, _ => rfl
  | i + 1, h => by
    rw [rowVals, rowVals, rowVals_ext i (fun t ht => h t (by omega)), (h i (by omega)).1, (h i (by omega)).2]
theorem rowVals_one (b c : Nat → Nat) (n i : Nat) : ∀ u ∈ rowVals b c n i, u.oneCell' = true := by
  induction i with
  | zero => intro u h; cases h
  | succ i ih =>
    intro u h
    rw [rowVals, List.mem_append] at h
    rcases h with h | h
    · exact ih u h
    · simp at h
      subst h; rfl
/-- The rows so far: their slice, and what lies in them. -/
structure RowsOwn (w : World) (B i n : Nat) (v : Value) (C : Mat) (b c : Nat → Nat) : Prop where
  own : w.ownsRow B 30 1 v i (rowVals b c n i)
  row : ∀ t, t < i → n ≤ c t ∧ c t ≤ 9223372036854775807 ∧ RowAt w (b t) 0 n (C t)
theorem RowsOwn.zero (w : World) (B n : Nat) (C : Mat) (b c : Nat → Nat) : RowsOwn w B 0 n (.slice none 0 0) C b c := ⟨World.ownsRow_nil _ _ _ _, fun t h => absurd h (Nat.not_lt_zero _)⟩
theorem RowsOwn.keep {w w' : World} {B i n : Nat} {v : Value} {C : Mat} {b c : Nat → Nat} (h : RowsOwn w B i n v C b c) (k : Below w.heap.size w w') : RowsOwn w' B i n v C b c :=
  ⟨keepB h.own k, fun t ht => ⟨(h.row t ht).1, (h.row t ht).2.1, (h.row t ht).2.2.keep k⟩⟩
/-- Where a row of bounds that is the call's own lies. -/
theorem row_mine {w : World} {B n : Nat} {v : Value} {r : Nat → Bd} (h0 : 0 < n) (h : w.ownsRow B 26 2 v n (rowCells r n)) : ∃ g cap, v = .slice (some ⟨g, 0, none⟩) n cap ∧ B ≤ g ∧ g < w.heap.size ∧ n ≤ cap ∧ cap ≤ 9223372036854775807 ∧ RowAt w g 0 n r := by
  have hc := h
  rcases h.2 with ⟨_, h0'⟩ | ⟨g, cap, cur, rfl, h2, h3, h4, h5, h6⟩
  · omega
  · refine ⟨g, cap, rfl, h2, (h.lt g rfl).2, h4, by unfold maxLen at h5; omega, ⟨fun j hj => ?_, fun j hj => ?_⟩⟩
    · have := hc.cells (g := g) rfl (j * 2) _ (rowCells_inf r n j hj)
      rw [add_off] at this
      exact this
    · have := hc.cells (g := g) rfl (j * 2 + 1) _ (rowCells_num r n j hj)
      rw [add_off] at this
      rw [Nat.add_assoc]; exact this
theorem rowCells_ext {r s : Nat → Bd} : ∀ n, (∀ j, j < n → r j = s j) → rowCells r n = rowCells s n
  | 0, _ => rfl
  | n + 1, h => by rw [rowCells, rowCells, rowCells_ext n (fun j hj => h j (by omega)), h n (by omega)]
theorem rows_ne {w : World} {B i n : Nat} {v : Value} {b c : Nat → Nat} {x : Nat} {r : Nat → Bd} (h : w.ownsRow B 30 1 v i (rowVals b c n i)) (hi : 0 < i) (hn : 0 < n) (hr : RowAt w x 0 n r) : v.ownBlock ≠ some x := by
  have hc := h
  rcases h.2 with ⟨_, h0'⟩ | ⟨g, cap, cur, rfl, h2, h3, h4, h5, h6⟩
  · omega
  · intro e
    have e : g = x := by simpa [Value.ownBlock] using e
    subst e
    have z := hc.cells (g := g) rfl 0 _ (rowVals_at b c n i 0 hi)
    rw [add_off] at z
    have y := hr.inf 0 hn
    simp only [Nat.zero_mul, Nat.zero_add] at y z
    rw [z] at y
    cases y
theorem grown_row {w w' : World} {ro : Option Nat} {x p n : Nat} {r : Nat → Bd} (g : w.grownBy w' ro) (h : RowAt w x p n r) (hn : 0 < n) (hx : ro ≠ some x) : RowAt w' x p n r := by
  have hl : x < w.heap.size := cell_here (h.inf 0 hn)
  have e := g.block x hl (Ne.symm hx)
  exact ⟨fun j hj => by rw [World.cell?_of_block (w := w) e]; exact h.inf j hj, fun j hj => by rw [World.cell?_of_block (w := w) e]; exact h.num j hj⟩
/-- One row more. -/
theorem rows_more {w w1 w2 : World} {B i n : Nat} {v v' : Value} {C : Mat} {b c : Nat → Nat} {x cap : Nat} (h : RowsOwn w B i n v C b c) (hn : 0 < n) (hB : B ≤ w.heap.size) (k : Below w.heap.size w w1) (hx : w.heap.size ≤ x) (hr : RowAt w1 x 0 n (C i)) (hc : n ≤ cap ∧ cap ≤ 9223372036854775807) (g : w1.grownBy w2 v.ownBlock)
    (ho : w2.ownsRow B 30 1 v' (i + 1) (rowVals b c n i ++ [.slice (some ⟨x, 0, none⟩) n cap])) :
    RowsOwn w2 B (i + 1) n v' C (fun t => if t = i then x else b t) (fun t => if t = i then cap else c t) := by
  refine ⟨?_, fun t ht => ?_⟩
  · have e : rowVals (fun t => if t = i then x else b t) (fun t => if t = i then cap else c t) n (i + 1) = rowVals b c n i ++ [.slice (some ⟨x, 0, none⟩) n cap] := by
      rw [rowVals, rowVals_ext (b' := b) (c' := c) i (fun t ht => by simp [Nat.ne_of_lt ht])]
      simp
    rw [e]; exact ho
  · have far : ∀ y r, RowAt w1 y 0 n r → v.ownBlock ≠ some y → RowAt w2 y 0 n r := fun y r h1 h2 => grown_row g h1 hn h2
    by_cases q : t = i
    · subst q
      simp only [if_true]
      refine ⟨hc.1, hc.2, far _ _ hr (fun e => ?_)⟩
      have := (h.own.lt x e).2
      omega
    · simp only [if_neg q]
      have hrow := h.row t (by omega)
      exact ⟨hrow.1, hrow.2.1, far _ _ (hrow.2.2.keep k) (rows_ne h.own (by omega) hn hrow.2.2)⟩
def RClose (w w' : World) (n : Nat) (M : Mat) (e : Ending) : Prop :=
  (∃ i, i < n ∧ Bd.neg (way n M i i) = true ∧ e = .returned (.tuple #[.slice none 0 0, .bool false]) ∧ Hid (Below w.heap.size w w')) ∨
  ((∀ i, i < n → Bd.neg (way n M i i) = false) ∧ ∃ g k b c, e = .returned (.tuple #[.slice (some ⟨g, 0, none⟩) n k, .bool true]) ∧ n ≤ k ∧ Hid (NetAt w' g 0 n b (fun _ => 0) c (ways n M)) ∧ Hid (Below w.heap.size w w'))
theorem rows_done {w : World} {B n : Nat} {v : Value} {C : Mat} {b c : Nat → Nat} (h0 : 0 < n) (h : RowsOwn w B n n v C b c) : ∃ g k, v = .slice (some ⟨g, 0, none⟩) n k ∧ n ≤ k ∧ NetAt w g 0 n b (fun _ => 0) c C := by
  have hc := h.own
  rcases h.own.2 with ⟨_, h0'⟩ | ⟨g, cap, cur, rfl, h2, h3, h4, h5, h6⟩
  · omega
  · refine ⟨g, cap, rfl, h4, ⟨fun i hi => ?_, fun i hi => ⟨(h.row i hi).1, (h.row i hi).2.1⟩, fun i hi => (h.row i hi).2.2⟩⟩
    have := hc.cells (g := g) rfl i _ (rowVals_at b c n n i hi)
    rw [add_off] at this
    exact this
set_option maxRecDepth 100000 in
set_option maxHeartbeats 4000000 in
theorem rclose_net (g o n k : Nat) (b p c : Nat → Nat) (M : Mat) (h0 : 0 < n) (hn : n ≤ 24) (hk : n ≤ k) (hk' : k ≤ 9223372036854775807) (hM : Fits n M) (w : World) (hw : NetAt w g o n b p c M) :
    Calls Try.prog 18 #[.slice (some ⟨g, o, none⟩) n k] w fun e w' => RClose w w' n M e := by
  obtain ⟨i1, hi1, hx0, hx1, hx2⟩ := info_parts info26
  have HI1 := Lib.hid hi1
  have HX0 := Lib.hid hx0
  have HX1 := Lib.hid hx1
  have HX2 := Lib.hid hx2
  obtain ⟨i2, hi2, hy0, hy1, hy2⟩ := info_parts info30
  have HI2 := Lib.hid hi2
  have HY0 := Lib.hid hy0
  have HY1 := Lib.hid hy1
  have HY2 := Lib.hid hy2
  have WY := Lib.hid (fun (u t : Nat) hu ht (w' : World) (hb : Below w.heap.size w w') => way_net g o n k b p c M hn hk hk' hM u t hu ht w' (hw.keep hb))
  clear hi1 hx0 hx1 hx2 hi2 hy0 hy1 hy2 hM hw
  go_enter Try.func18, Try.ntmps18
  go_wp2
  go_loopw [4, 5] (fun v ii wr => ∃ (i : Nat) (b c : Nat → Nat), i ≤ n ∧ ii = .int .i64 i ∧ Hid (RowsOwn wr w.heap.size i n v (ways n M) b c) ∧ Hid (Below w.heap.size w wr) ∧ Hid (∀ t, t < i → Bd.neg (way n M t t) = false)) (fun _ ii _ => n - (intOf ii).toNat)
  case atStart => exact ⟨0, fun _ => 0, fun _ => 0, Nat.zero_le _, rfl, Lib.hid (RowsOwn.zero _ _ _ _ _ _), Lib.hid (Below.refl _ _), Lib.hid (fun t h => absurd h (Nat.not_lt_zero _))⟩
  case round =>
    obtain ⟨i, b', c', hi, rfl, HO, HB, HN⟩ := hrel
    by_cases ilt : i < n
    · have i0 : (0 : Int) ≤ (i : Int) := by omega
      have i1' : (i : Int) < (n : Int) := by omega
      have W1 := Lib.hid (WY.out i i ilt ilt wr HB.out)
      have L0 := Lib.hid (fun w => below_enc (way n M i i) (some 0) w)
      cases hneg : Bd.neg (way n M i i)
      · have hl : Bd.lt (way n M i i) (some 0) = false := by rw [← Bd.neg_lt]; exact hneg
        have L1 : Hid (∀ w, Calls Try.prog 31 #[.agg #[.int .i8 (infOf (way n M i i)), .int .i64 (numOf (way n M i i))], .agg #[.int .i8 0, .int .i64 0]] w fun e w' => e = .returned (.bool false) ∧ Below w.heap.size w w') := by rw [← hl]; exact L0
        have HE : Hid (∀ t, t < i + 1 → Bd.neg (way n M t t) = false) := Lib.hid (fun t ht => by
          by_cases q : t = i
          · subst q; exact hneg
          · exact HN.out t (by omega))
        clear hl L0 hneg HN
        obtain ⟨x, hx⟩ : ∃ q, infOf (way n M i i) = q := ⟨_, rfl⟩
        obtain ⟨y, hy⟩ : ∃ q, numOf (way n M i i) = q := ⟨_, rfl⟩
        rw [hx, hy] at W1 L1
        clear hx hy
        go_wp2_with (first
          | (go_at_call 32; (with_reducible refine (W1.out).mono ?_); rintro e w1 ⟨rfl, b1⟩; have HB1 := Lib.hid b1; clear b1)
          | (go_at_call 31; (with_reducible refine (L1.out _).mono ?_); rintro e w2 ⟨rfl, b2⟩; have HB2 := Lib.hid (HB1.out.trans (b2.mono HB1.out.size)); clear b2))
        clear W1 L1 HB1
        have HBw := Lib.hid (HB.out.trans (HB2.out.mono HB.out.size))
        go_loopw [6, 7] (fun v jj wj => ∃ j : Nat, j ≤ n ∧ jj = .int .i64 j ∧ Hid (wj.ownsRow w2.heap.size 26 2 v j (rowCells (ways n M i) j)) ∧ Hid (Below w2.heap.size w2 wj)) (fun _ jj _ => n - (intOf jj).toNat)
        case atStart => exact ⟨0, Nat.zero_le _, rfl, Lib.hid (World.ownsRow_nil _ _ _ _), Lib.hid (Below.refl _ _)⟩
        case round =>
          obtain ⟨j, hj, rfl, HR, HBj⟩ := hrel
          by_cases jlt : j < n
          · by_cases hij : i = j
            · have e1 : ((i : Int) == (j : Int)) = true := by simp; omega
              have HC : Hid (rowCells (ways n M i) j ++ [.int .i8 0, .int .i64 0] = rowCells (ways n M i) (j + 1)) := Lib.hid (by rw [rowCells, show ways n M i j = some 0 from if_pos hij]; rfl)
              clear hij
              go_wp2_with (at_builtin; refine wpList_append_own _ rfl _ _ 30 rfl w2.heap.size 26 i1 (.agg #[.int .i8 0, .int .i64 0]) 2 16 Try.underlying30 HI1.out HX0.out HX1.out HX2.out rfl (by decide) u6 j _ (by rfl) (keepB HR.out ((Below.refl _ _).alloc (Nat.le_refl _) _)) ⟨wr.heap.size, 0, none⟩ 1 1 [.int .i8 0, .int .i64 0] (by rfl) rfl ?hc (by intro z hz; simp at hz; rcases hz with rfl | rfl <;> rfl) (by unfold maxLen; omega) (by omega) (by have := HBj.out.size; simp; omega) ?_; (case hc => exact cells_new2 _ _ _ _); intro v' w3 hown hgro hnil; rw [HC.out] at hown; have HR2 := Lib.hid hown; have HBk := Lib.hid ((HBj.out.alloc HBj.out.size _).grown hgro (Nat.le_trans HBj.out.size (by simp)) (fun q hq => (HR.out.lt q hq).1)); clear hown hgro hnil)
              go_roundw
              case rel => exact ⟨j + 1, by omega, by go_num, HR2, HBk⟩
              case measure => simp [intOf]; omega
            · have e1 : ((i : Int) == (j : Int)) = false := by simp; omega
              have HC : Hid (rowCells (ways n M i) j ++ [.int .i8 (infOf (way n M i j)), .int .i64 (numOf (way n M i j))] = rowCells (ways n M i) (j + 1)) := Lib.hid (by rw [rowCells, show ways n M i j = way n M i j from if_neg hij])
              have W2 := Lib.hid (WY.out i j ilt jlt wr (HBw.out.trans (HBj.out.mono HBw.out.size)))
              obtain ⟨X, hX⟩ : ∃ q, infOf (way n M i j) = q := ⟨_, rfl⟩
              obtain ⟨Y, hY⟩ : ∃ q, numOf (way n M i j) = q := ⟨_, rfl⟩
              rw [hX, hY] at W2 HC
              clear hij hX hY
              go_wp2_with (first
                | (go_at_call 32; (with_reducible refine (W2.out).mono ?_); rintro e w4 ⟨rfl, b4⟩; have HB4 := Lib.hid b4; have HBq := Lib.hid (HBj.out.trans (b4.mono HBj.out.size)); clear b4)
                | (at_builtin; refine wpList_append_own _ rfl _ _ 30 rfl w2.heap.size 26 i1 (.agg #[.int .i8 0, .int .i64 0]) 2 16 Try.underlying30 HI1.out HX0.out HX1.out HX2.out rfl (by decide) u6 j _ (by rfl) (keepB (keepB HR.out HB4.out) ((Below.refl _ _).alloc (Nat.le_refl _) _)) ⟨w4.heap.size, 0, none⟩ 1 1 [.int .i8 X, .int .i64 Y] (by rfl) rfl ?hc (by intro z hz; simp at hz; rcases hz with rfl | rfl <;> rfl) (by unfold maxLen; omega) (by omega) (by have := HBq.out.size; simp; omega) ?_; (case hc => exact cells_new2 _ _ _ _); intro v' w3 hown hgro hnil; rw [HC.out] at hown; have HR2 := Lib.hid hown; have HBk := Lib.hid ((HBq.out.alloc HBq.out.size _).grown hgro (Nat.le_trans HBq.out.size (by simp)) (fun q hq => (HR.out.lt q hq).1)); clear hown hgro hnil))
              go_roundw
              case rel => exact ⟨j + 1, by omega, by go_num, HR2, HBk⟩
              case measure => simp [intOf]; omega
          · obtain rfl : j = n := by omega
            obtain ⟨g6, cap, rfl, r1, r2, r3, r4, r5⟩ := row_mine h0 HR.out
            have HR1 := Lib.hid r1
            have HR3 := Lib.hid (And.intro r3 r4)
            have HR5 := Lib.hid r5
            clear r1 r2 r3 r4 r5
            have KO := Lib.hid (HB2.out.trans (HBj.out.mono HB2.out.size))
            have HBz := Lib.hid (HBw.out.trans (HBj.out.mono HBw.out.size))
            go_wp2_with (at_builtin; refine wpList_append_own _ rfl _ _ 22 rfl w.heap.size 30 i2 (.slice none 0 0) 1 24 Try.underlying22 HI2.out HY0.out HY1.out HY2.out rfl (by decide) u4 i _ (by rfl) (keepB (keepB HO.out.own KO.out) ((Below.refl _ _).alloc (Nat.le_refl _) _)) ⟨wr.heap.size, 0, none⟩ 1 1 [.slice (some ⟨g6, 0, none⟩) j cap] (by rfl) rfl ?hc (by intro z hz; simp at hz; rcases hz with rfl; rfl) (by unfold maxLen; omega) (by omega) (by have := HBz.out.size; simp; omega) ?_; (case hc => exact box_one _ _ _); intro v' w3 hown hgro hnil; have HO2 := Lib.hid (rows_more HO.out h0 HB.out.size (KO.out.trans (((Below.refl _ _).alloc (Nat.le_refl _) _).mono KO.out.size)) (Nat.le_trans HB2.out.size HR1.out) (HR5.out.keep ((Below.refl _ _).alloc (Nat.le_refl _) _)) HR3.out hgro hown); have HBk := Lib.hid ((HBz.out.alloc HBz.out.size _).grown hgro (Nat.le_trans HBz.out.size (by simp)) (fun q hq => (HO.out.own.lt q hq).1)); clear hown hgro hnil)
            go_roundw
            case rel => exact ⟨i + 1, _, _, by omega, by go_num, HO2, HBk, HE⟩
            case measure => simp [intOf]; omega
      · have hl : Bd.lt (way n M i i) (some 0) = true := by rw [← Bd.neg_lt]; exact hneg
        have L1 : Hid (∀ w, Calls Try.prog 31 #[.agg #[.int .i8 (infOf (way n M i i)), .int .i64 (numOf (way n M i i))], .agg #[.int .i8 0, .int .i64 0]] w fun e w' => e = .returned (.bool true) ∧ Below w.heap.size w w') := by rw [← hl]; exact L0
        have HE := Lib.hid hneg
        clear hl L0 hneg
        generalize infOf (way n M i i) = x at *
        generalize numOf (way n M i i) = y at *
        go_wp2_with (first
          | (go_at_call 32; (with_reducible refine (W1.out).mono ?_); rintro e w1 ⟨rfl, b1⟩; have HB1 := Lib.hid (HB.out.trans (b1.mono HB.out.size)); clear b1)
          | (go_at_call 31; (with_reducible refine (L1.out _).mono ?_); rintro e w2 ⟨rfl, b2⟩; have HB2 := Lib.hid (HB1.out.trans (b2.mono HB1.out.size)); clear b2))
        go_returns
        exact .inl ⟨i, ilt, HE.out, rfl, HB2⟩
    · obtain rfl : i = n := by omega
      obtain ⟨g6, cap, rfl, r1, r2⟩ := rows_done h0 HO.out
      have HR2 := Lib.hid r2
      clear r2
      go_wp2
      go_returns
      exact .inr ⟨HN.out, g6, cap, _, _, rfl, r1, HR2, HB⟩
end Go.Proofs.Ytnhbinghinlhgaa
