/- Contracts: safe's sum, Move. -/
import Derived.Test.YthjpnnggghfepaaS8
import Derived.Test.YthjpnnggghfepaaU2
import Derived.Laws.OwnMore
import Derived.Deep.MidRow
namespace Go.Proofs.Ythjpnnggghfepaa
set_option linter.unusedVariables false
set_option linter.unusedSimpArgs false
open Go.ChangeShapes Go.WideShapes Go.ChangeAt Go.RowKit
theorem add_ok (a b : Int) (w : World) (ha1 : -9223372036854775808 ≤ a) (ha2 : a ≤ 9223372036854775807) (hb1 : -9223372036854775808 ≤ b) (hb2 : b ≤ 9223372036854775807)
    (h1 : -9223372036854775808 ≤ a + b) (h2 : a + b ≤ 9223372036854775807) :
    Calls Try.prog 49 #[.int .i64 a, .int .i64 b] w fun e w' => e = .returned (.tuple #[.int .i64 (a + b), .int .i64 0]) ∧ w = w' := by
  go_each [a < 0, b < 0, a + b < 0] => (go_enter Try.func49, Try.ntmps49; go_wp2; go_ret2; exact ⟨rfl, rfl⟩)
theorem add_over (a b : Int) (w : World) (ha1 : -9223372036854775808 ≤ a) (ha2 : a ≤ 9223372036854775807) (hb1 : -9223372036854775808 ≤ b) (hb2 : b ≤ 9223372036854775807)
    (h : a + b < -9223372036854775808 ∨ 9223372036854775807 < a + b) :
    Calls Try.prog 49 #[.int .i64 a, .int .i64 b] w fun e w' => e = .returned (.tuple #[.int .i64 0, .int .i64 10]) ∧ w = w' := by
  rcases h with h | h
  · have ca : a < 0 := by omega
    have cb : b < 0 := by omega
    have cs : ¬ wrap64 (a + b) < 0 := by unfold wrap64; omega
    go_enter Try.func49, Try.ntmps49
    go_wp2
    go_ret2
    exact ⟨rfl, rfl⟩
  · have ca : ¬ a < 0 := by omega
    have cb : ¬ b < 0 := by omega
    have cs : wrap64 (a + b) < 0 := by unfold wrap64; omega
    go_enter Try.func49, Try.ntmps49
    go_wp2
    go_ret2
    exact ⟨rfl, rfl⟩
/-- The sum, and whether it is one. -/
def sumB (a b : Int) : Bool := decide (-9223372036854775808 ≤ a + b) && decide (a + b ≤ 9223372036854775807)
theorem add_any (a b : Int) (w : World) (ha1 : -9223372036854775808 ≤ a) (ha2 : a ≤ 9223372036854775807) (hb1 : -9223372036854775808 ≤ b) (hb2 : b ≤ 9223372036854775807) :
    Calls Try.prog 49 #[.int .i64 a, .int .i64 b] w fun e w' => ∃ x c : Int, e = .returned (.tuple #[.int .i64 x, .int .i64 c]) ∧ (((x = a + b ∧ c = 0) ∧ sumB a b = true) ∨ ((x = 0 ∧ c = 10) ∧ sumB a b = false)) ∧ w = w' := by
  by_cases h : -9223372036854775808 ≤ a + b ∧ a + b ≤ 9223372036854775807
  · exact (add_ok a b w ha1 ha2 hb1 hb2 h.1 h.2).mono fun e w' ⟨e1, e2⟩ => ⟨_, _, e1, .inl ⟨⟨rfl, rfl⟩, by simp [sumB]; exact h⟩, e2⟩
  · exact (add_over a b w ha1 ha2 hb1 hb2 (by omega)).mono fun e w' ⟨e1, e2⟩ => ⟨_, _, e1, .inr ⟨⟨rfl, rfl⟩, by simp [sumB]; omega⟩, e2⟩
def moved (l : List Sp) (d : Int) : List Sp := l.map fun s => (s.1 + d, s.2 + d)
def okSp (d : Int) (s : Sp) : Prop := (-1099511627776 ≤ s.1 + d ∧ s.1 + d ≤ 1099511627776) ∧ -1099511627776 ≤ s.2 + d ∧ s.2 + d ≤ 1099511627776
theorem moved_length (l : List Sp) (d : Int) : (moved l d).length = l.length := by simp [moved]
theorem moved_cells (l : List Sp) (d : Int) (i : Nat) (h : i < l.length) : (spCells (moved l d))[2 * i]? = some (.int .i64 (l[i].1 + d)) ∧ (spCells (moved l d))[2 * i + 1]? = some (.int .i64 (l[i].2 + d)) := by
  have q := spCells_at (moved l d) i (by rw [moved_length]; exact h)
  have e : (moved l d)[i]'(by rw [moved_length]; exact h) = (l[i].1 + d, l[i].2 + d) := by simp [moved]
  rw [e, Nat.mul_comm] at q
  exact q
theorem set_cells (xs ys : List Value) (k : Nat) (u v : Value) (hx : k + 1 < xs.length) (h : ∀ j, j < k → xs[j]? = ys[j]?) (hu : ys[k]? = some u) (hv : ys[k + 1]? = some v) : ∀ j, j < k + 2 → ((xs.set k u).set (k + 1) v)[j]? = ys[j]? := by
  intro j hj
  rw [List.getElem?_set, List.getElem?_set]
  by_cases e1 : k + 1 = j
  · subst e1; simp [hx, hv]
  · by_cases e2 : k = j
    · subst e2; simp [hu, show k < xs.length by omega]
    · simp [e1, e2]; exact h j (by omega)
theorem store_sp {w : World} {B g n cap i : Nat} {xs : List Value} (hq : w.ownsRow B 35 2 (.slice (some ⟨g, 0, none⟩) n cap) n xs) (hi : i < n) (u v : Value) (o : Nat) (ho : o = 2 * i) :
    w.there g o 2 ∧ (w.setCells g o [u, v]).ownsRow B 35 2 (.slice (some ⟨g, 0, none⟩) n cap) n ((xs.set o u).set (o + 1) v) := by
  refine ⟨fun j hj => ⟨?_, hq.frozenAt _⟩, ((hq.stored o u).1.stored (o + 1) v).1⟩
  have hl := hq.1
  rw [hq.cellAt (o + j) (by omega), List.getElem?_eq_getElem (by omega)]; rfl
theorem two_cells (a b : Int) : (#[Value.int .i64 a, Value.int .i64 b].all fun x => x.oneCell') = true := by simp [Value.oneCell']
theorem below_cells {B : Nat} {a w : World} (h : Below B a w) {g : Nat} (hg : B ≤ g) (o : Nat) (u v : Value) : Below B a (w.setCells g o [u, v]) :=
  (h.setCell (p := ⟨g, o, none⟩) hg u).setCell (p := ⟨g, o + 1, none⟩) hg v
set_option maxHeartbeats 2000000 in
theorem move_any (ao : Option Addr) (n c : Nat) (l : List Sp) (ga : Good l) (hn : n ≤ 1000000) (d : Int) (hd1 : -9223372036854775808 ≤ d) (hd2 : d ≤ 9223372036854775807) (w : World) (hl : SpAt w ao n c l) :
    Calls Try.prog 31 #[.slice ao n c, .int .i64 d] w fun e w' => ∃ (v : Value) (k : Int), e = .returned (.tuple #[v, .int .i64 k]) ∧ Below w.heap.size w w' ∧
      (((∀ s ∈ l, okSp d s) ∧ k = 0 ∧ w'.ownsRow w.heap.size 35 2 v n (spCells (moved l d))) ∨ ((∃ s ∈ l, ¬ okSp d s) ∧ k = 20 ∧ v = .slice none 0 0)) := by
  obtain ⟨i0, hi, hz0, hz1, hz2⟩ := info_parts info35
  have LN := hl.len
  by_cases h0 : n = 0
  · obtain rfl : l = [] := List.eq_nil_of_length_eq_zero (by omega)
    have t1 : ((n : Int) == 0) = true := by simp; omega
    have hz : n = 0 := h0
    clear hl LN h0
    go_enter Try.func31, Try.ntmps31
    go_wp2
    go_returns
    exact ⟨_, _, rfl, Below.refl _ _, .inl ⟨(fun s h => by cases h), rfl, (by subst hz; exact World.ownsRow_nil _ _ _ _)⟩⟩
  · have t1 : ((n : Int) == 0) = false := by simp; omega
    have HL := Lib.hid hl
    have HG := Lib.hid ga
    have HLN := Lib.hid LN
    have HI := Lib.hid hi
    have HZ1 := Lib.hid hz1
    clear hl ga LN
    go_enter Try.func31, Try.ntmps31
    go_wp2_with (at_make; refine wpList_make_full _ rfl _ _ 22 rfl w.heap.size 35 i0 (.agg #[.int .i64 0, .int .i64 0]) 2 Try.underlying22 hi hz0 hz1 .i64 .i64 _ _ n rfl rfl rfl rfl (by rw [hz2]; omega) (by unfold maxLen; omega) (Nat.le_refl _) ?_; intro w1 hown hgrow; have HO := Lib.hid hown; have HB := Lib.hid ((Below.refl _ w).grown hgrow (Nat.le_refl _) (by intro k hk; cases hk)); clear hown hgrow)
    obtain ⟨g, hg⟩ : ∃ g, w.heap.size = g := ⟨_, rfl⟩
    have HO2 := HO.out
    rw [hg] at HO2
    have HO' : Hid (∃ xs, w1.ownsRow w.heap.size 35 2 (.slice (some ⟨g, 0, none⟩) n n) n xs ∧ ∀ j, j < 2 * 0 → xs[j]? = (spCells (moved l d))[j]?) := Lib.hid ⟨_, by rw [hg]; exact HO2, fun j hj => by omega⟩
    rw [hg]
    clear HO HO2 hi hz0 hz1 hz2
    go_wp2
    go_loopw [21] (fun ii wr => ∃ i : Nat, i ≤ n ∧ ii = .int .i64 i ∧ Hid (∃ xs, wr.ownsRow w.heap.size 35 2 (.slice (some ⟨g, 0, none⟩) n n) n xs ∧ ∀ j, j < 2 * i → xs[j]? = (spCells (moved l d))[j]?) ∧ Hid (∀ s ∈ l.take i, okSp d s) ∧ Hid (Below w.heap.size w wr)) (fun ii _ => n - (intOf ii).toNat)
    case atStart => exact ⟨0, Nat.zero_le _, rfl, HO', Lib.hid (fun s h => by cases h), HB⟩
    case round =>
      obtain ⟨i, hi, rfl, HX, HS, HW⟩ := hrel
      by_cases ilt : i < n
      · obtain ⟨b, p, rfl, hc⟩ := HL.out.here (by omega)
        have hil : i < l.length := by rw [HLN.out]; exact ilt
        have c1 := cell_keep (hc i hil).1 HW.out
        have c2 := cell_keep (hc i hil).2 HW.out
        have g1 := good_at HG.out i hil
        have HT := Lib.hid (fun s => mem_take_succ (s := s) hil)
        have HM := Lib.hid (List.getElem_mem hil)
        have HGT := Lib.hid (moved_cells l d i hil)
        have i0' : (0 : Int) ≤ (i : Int) := by omega
        have i1' : (i : Int) < (n : Int) := by omega
        clear hc
        obtain ⟨s, hs⟩ : ∃ z, l[i] = z := ⟨_, rfl⟩
        rw [hs] at c1 c2 g1 HT HM HGT
        have HIL := Lib.hid hil
        clear hs hil
        obtain ⟨x, y⟩ := s
        simp only at c1 c2 g1
        have E1 := Lib.hid (fun w => add_any x d w (by omega) (by omega) (by omega) (by omega))
        have E2 := Lib.hid (fun w => add_any y d w (by omega) (by omega) (by omega) (by omega))
        have KA := Lib.hid ((Below.refl _ wr).alloc (Nat.le_refl _) (.cells #[.int .i64 x, .int .i64 y] 35))
        have b1 := (box_cells wr (.int .i64 x) (.int .i64 y) 35).1
        have b2 := (box_cells wr (.int .i64 x) (.int .i64 y) 35).2
        go_upto_region 9 with (first
          | (go_at_call 49; with_reducible refine (E1.out _).mono ?_; rintro e w1 ⟨x1, k1, rfl, F1, rfl⟩)
          | (go_at_call 49; with_reducible refine (E2.out _).mono ?_; rintro e w1 ⟨x2, k2, rfl, F2, rfl⟩))
        have T1 := Lib.hid (fun (w : World) => tick_any (x + d) w)
        have T2 := Lib.hid (fun (w : World) => tick_any (y + d) w)
        have HW2 := Lib.hid (HW.out.trans (KA.out.mono HW.out.size))
        clear E1 E2
        rcases F1 with ⟨⟨rfl, rfl⟩, s1⟩ | ⟨⟨rfl, rfl⟩, s1⟩
        · rcases F2 with ⟨⟨rfl, rfl⟩, s2⟩ | ⟨⟨rfl, rfl⟩, s2⟩
          · cases h1 : tickB (x + d)
            · have HNO : Hid (¬ okSp d (x, y)) := Lib.hid (fun q => by have := (tickB_iff (x + d)).2 q.1; rw [h1] at this; cases this)
              rw [h1] at T1
              clear h1
              go_wp2_with (go_at_call 36; with_reducible refine (T1.out _).mono ?_; rintro e w3 ⟨rfl, rfl⟩)
              go_returns
              exact ⟨_, _, rfl, HW2.out, .inr ⟨⟨_, HM.out, HNO.out⟩, rfl, rfl⟩⟩
            · cases h2 : tickB (y + d)
              · have HNO : Hid (¬ okSp d (x, y)) := Lib.hid (fun q => by have := (tickB_iff (y + d)).2 q.2; rw [h2] at this; cases this)
                rw [h1] at T1
                rw [h2] at T2
                clear h1 h2
                go_wp2_with (first | (go_at_call 36; with_reducible refine (T1.out _).mono ?_; rintro e w3 ⟨rfl, rfl⟩) | (go_at_call 36; with_reducible refine (T2.out _).mono ?_; rintro e w4 ⟨rfl, rfl⟩))
                go_returns
                exact ⟨_, _, rfl, HW2.out, .inr ⟨⟨_, HM.out, HNO.out⟩, rfl, rfl⟩⟩
              · have HOK : Hid (okSp d (x, y)) := Lib.hid ⟨(tickB_iff _).1 h1, (tickB_iff _).1 h2⟩
                rw [h1] at T1
                rw [h2] at T2
                clear h1 h2
                obtain ⟨xs, q1, q2⟩ := HX.out
                have Q1 := Lib.hid (keepB q1 KA.out)
                have Q2 := Lib.hid q2
                clear q1 q2
                have hg' : w.heap.size ≤ g := by omega
                have eo : i * 2 = 2 * i := by omega
                have HS2 : Hid (∀ s ∈ l.take (i + 1), okSp d s) := Lib.hid (fun s hs => by
                  rcases (HT.out s).1 hs with g | rfl
                  · exact HS.out s g
                  · exact HOK.out)
                go_wp2_with (first
                  | (go_at_call 36; with_reducible refine (T1.out _).mono ?_; rintro e w3 ⟨rfl, rfl⟩)
                  | (go_at_call 36; with_reducible refine (T2.out _).mono ?_; rintro e w4 ⟨rfl, rfl⟩)
                  | (refine wpList_store_mid rfl 35 _ _ rfl g _ #[.int .i64 (x + d), .int .i64 (y + d)] rfl rfl (store_sp (i := i) Q1.out ilt (.int .i64 (x + d)) (.int .i64 (y + d)) _ (by omega)).1 (by kernel_rfl) (two_cells _ _) ?_
                     have HR := Lib.hid (store_sp (i := i) Q1.out ilt (.int .i64 (x + d)) (.int .i64 (y + d)) (2 * i) rfl).2
                     have HB2 := Lib.hid (below_cells HW2.out hg' (2 * i) (.int .i64 (x + d)) (.int .i64 (y + d)))))
                go_roundw
                case rel =>
                  refine ⟨i + 1, by omega, by go_num, Lib.hid ⟨_, HR.out, ?_⟩, HS2, HB2⟩
                  have q3 := set_cells xs (spCells (moved l d)) (2 * i) (.int .i64 (x + d)) (.int .i64 (y + d)) (by have := Q1.out.1; omega) (fun j hj => Q2.out j (by omega)) HGT.out.1 HGT.out.2
                  exact fun j hj => q3 j (by omega)
                case measure => simp [intOf]; omega
          · have HNO : Hid (¬ okSp d (x, y)) := Lib.hid (fun q => by simp [sumB, okSp] at s2 q; omega)
            cases h1 : tickB (x + d)
            all_goals
              rw [h1] at T1
              clear h1
              go_wp2_with (go_at_call 36; with_reducible refine (T1.out _).mono ?_; rintro e w3 ⟨rfl, rfl⟩)
              go_returns
              exact ⟨_, _, rfl, HW2.out, .inr ⟨⟨_, HM.out, HNO.out⟩, rfl, rfl⟩⟩
        · have HNO : Hid (¬ okSp d (x, y)) := Lib.hid (fun q => by simp [sumB, okSp] at s1 q; omega)
          go_wp2
          go_returns
          exact ⟨_, _, rfl, HW2.out, .inr ⟨⟨_, HM.out, HNO.out⟩, rfl, rfl⟩⟩
      · obtain rfl : i = n := by omega
        have HF := Lib.hid HS.out
        go_wp2
        go_returns
        obtain ⟨xs, q1, q2⟩ := HX.out
        refine ⟨_, _, rfl, HW.out, .inl ⟨fun s hs => HF.out s (by rw [List.take_of_length_le (by rw [HLN.out]; exact Nat.le_refl _)]; exact hs), rfl, ?_⟩⟩
        have e : xs = spCells (moved l d) := by
          apply List.ext_getElem?
          intro j
          by_cases hj : j < 2 * i
          · exact q2 j hj
          · have e1 := q1.1
            rw [List.getElem?_eq_none (by omega), List.getElem?_eq_none (by rw [spCells_length, moved_length, HLN.out]; omega)]
        rw [← e]; exact q1
end Go.Proofs.Ythjpnnggghfepaa
