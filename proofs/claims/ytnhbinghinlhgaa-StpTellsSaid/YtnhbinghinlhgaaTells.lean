/- The law StpTells. -/
import Derived.Test.YtnhbinghinlhgaaT9
namespace Go.Proofs.Ytnhbinghinlhgaa
set_option linter.unusedVariables false
set_option linter.unusedSimpArgs false
open Go.ChangeShapes Go.WideShapes Go.ChangeAt Go.RowKit
/-- Rows that have been cut. -/
def cutVals (b p c : Nat → Nat) (n : Nat) : Nat → List Value
  | 0 => []
  | i + 1 => cutVals b p c n i ++ [.slice (some ⟨b i, p i, none⟩) n (c i)]
theorem cutVals_length (b p c : Nat → Nat) (n : Nat) : ∀ i, (cutVals b p c n i).length = i
  | 0 => rfl
  | i + 1 => by simp [cutVals, cutVals_length b p c n i]
theorem cutVals_at (b p c : Nat → Nat) (n : Nat) : ∀ i t, t < i → (cutVals b p c n i)[t]? = some (.slice (some ⟨b t, p t, none⟩) n (c t))
  | i + 1, t, h => by
    have l := cutVals_length b p c n i
    by_cases q : t = i
    · subst q
      rw [cutVals, List.getElem?_append_right (by omega), l]
      simp
    · rw [cutVals, List.getElem?_append_left (by omega)]
      exact cutVals_at b p c n i t (by omega)
theorem cut_done {w : World} {B g o N m : Nat} {v : Value} {M : Mat} {b p c : Nat → Nat} (h0 : 0 < m) (hm : m ≤ N) (hn : NetAt w g o N b p c M) (h : w.ownsRow B 30 1 v m (cutVals b p c m m)) : ∃ g k, v = .slice (some ⟨g, 0, none⟩) m k ∧ m ≤ k ∧ k ≤ 9223372036854775807 ∧ NetAt w g 0 m b p c M := by
  have hc := h
  rcases h.2 with ⟨_, h0'⟩ | ⟨g, cap, cur, rfl, h2, h3, h4, h5, h6⟩
  · omega
  · refine ⟨g, cap, rfl, h4, by unfold maxLen at h5; omega, ⟨fun i hi => ?_, fun i hi => ⟨Nat.le_trans hm (hn.cap i (by omega)).1, (hn.cap i (by omega)).2⟩, fun i hi => ⟨fun j hj => (hn.cells i (by omega)).inf j (by omega), fun j hj => (hn.cells i (by omega)).num j (by omega)⟩⟩⟩
    have := hc.cells (g := g) rfl i _ (cutVals_at b p c m m i hi)
    rw [add_off] at this
    exact this
def NewSaid (n er : Int) (v : Value) (N : Nat) (w : World) : Prop :=
  (er = 2 ∧ (n < 0 ∨ 24 < n)) ∨ (er = 0 ∧ (0 ≤ n ∧ n ≤ 24) ∧ (N : Int) = n ∧ ∀ w'', Below w.heap.size w w'' → Calls Try.prog 10 #[v] w'' fun e w3 => e = .returned (.bool true) ∧ Below w''.heap.size w'' w3)
def SetSaid (fn : Bool) (er : Int) (d v s : Value) (w : World) : Prop :=
  (er = 2 ∧ fn = false) ∨ (er = 0 ∧ fn = true ∧ ∀ w'', Below w.heap.size w w'' → Calls Try.prog 16 #[d, v, s] w'' fun e w3 => e = .returned (.bool true) ∧ Below w''.heap.size w'' w3)
set_option maxRecDepth 100000 in
set_option maxHeartbeats 16000000 in
theorem tells_law (n : Int) (ao : Option Addr) (N k : Nat) (ra : Nat → Option Addr) (L c : Nat → Nat) (X Y : Nat → Nat → Int) (ta : Option Addr) (tm tc : Nat) (t : Nat → Int) (I J U V : Int) (w : World) (hw : RawNet w ao N k ra L c X Y) (ht : TickIs w ta tm tc t) :
    Calls Try.prog 3 #[.int .i64 n, .slice ao N k, .slice ta tm tc, .agg #[.int .i64 I, .int .i64 J, .int .i8 U, .int .i64 V]] w fun e w' => e = .returned (.bool true) ∧ Below w.heap.size w w' := by
  have HB0 := Lib.hid ((Below.refl _ w).alloc (Nat.le_refl _) (.cells #[.int .i64 I, .int .i64 J, .int .i8 U, .int .i64 V] 28))
  have HF0 := Lib.hid (box_four w (.int .i64 I) (.int .i64 J) (.int .i8 U) (.int .i64 V) 28)
  have HW := Lib.hid hw
  have HT := Lib.hid ht
  clear hw ht
  by_cases h30 : (30 : Int) < (N : Int)
  · go_enter Try.func3, Try.ntmps3
    go_wp2_with (go_at_call 8; (with_reducible refine (awake_any _).mono ?_); rintro e w1 ⟨rfl, b1⟩)
    go_returns
    exact ⟨rfl, HB0.out.trans (b1.mono HB0.out.size)⟩
  · go_enter Try.func3, Try.ntmps3
    go_wp2
    obtain ⟨xb, hxb⟩ : ∃ q, w.heap.size = q := ⟨_, rfl⟩
    rw [hxb] at HF0 ⊢
    have HXB := Lib.hid hxb
    clear hxb
    generalize (w.alloc (.cells #[.int .i64 I, .int .i64 J, .int .i8 U, .int .i64 V] 28)) = w0 at *
    go_loop [33] (fun ii => ∃ i : Nat, i ≤ N ∧ ii = .int .i64 i) (fun ii => N - (intOf ii).toNat)
    case atStart => exact ⟨0, Nat.zero_le _, rfl⟩
    case round =>
      obtain ⟨i, hi, rfl⟩ := hrel
      by_cases ilt : i < N
      · obtain ⟨g, o, rfl, hr⟩ := HW.out.rows (by omega)
        have c1 := cell_keep (hr i ilt) HB0.out
        clear hr
        have i0 : (0 : Int) ≤ (i : Int) := by omega
        have i1 : (i : Int) < (N : Int) := by omega
        generalize ra i = ri at *
        generalize L i = Li at *
        generalize c i = ci at *
        by_cases hl : (30 : Int) < (Li : Int)
        · go_wp2_with (go_at_call 8; (with_reducible refine (awake_any _).mono ?_); rintro e w1 ⟨rfl, b1⟩)
          go_returns
          exact ⟨rfl, HB0.out.trans (b1.mono HB0.out.size)⟩
        · go_wp2
          go_round
          case rel => exact ⟨i + 1, by omega, by go_num⟩
          case measure => simp [intOf]; omega
      · go_upto_region 9 with fail
        clear ilt hi
        -- New
        go_cut [11, 12] (fun s11 s12 wx => ∃ (ao' : Option Addr) (N' k' : Nat) (er : Int), s11 = .slice ao' N' k' ∧ s12 = .int .i64 er ∧ Hid (NewSaid n er (.slice ao' N' k') N' wx) ∧ Hid (Below w.heap.size w wx) ∧ Hid (Four wx xb (.int .i64 I) (.int .i64 J) (.int .i8 U) (.int .i64 V)))
        case first => as_aux_lemma =>
          by_cases hn : 0 ≤ n ∧ n ≤ 24
          · obtain ⟨N', rfl⟩ := Int.eq_ofNat_of_zero_le hn.1
            have A := Lib.hid (new_ok N' (by omega) w0)
            have HN := Lib.hid hn
            clear hn
            go_wp2_with (go_at_call 9; (with_reducible refine (A.out).mono ?_); rintro e w1 ⟨ao', k', rfl, b1, HC⟩)
            go_meet
            exact ⟨ao', N', k', 0, rfl, rfl, Lib.hid (.inr ⟨rfl, HN.out, rfl, HC⟩), Lib.hid (HB0.out.trans (b1.out.mono HB0.out.size)), Lib.hid (HF0.out.keep b1.out)⟩
          · have A := Lib.hid (new_wrong n (by omega) w0)
            have HN := Lib.hid (show n < 0 ∨ 24 < n by omega)
            clear hn
            go_wp2_with (go_at_call 9; (with_reducible refine (A.out).mono ?_); rintro e w1 ⟨rfl, b1⟩)
            go_meet
            exact ⟨none, 0, 0, 2, rfl, rfl, Lib.hid (.inl ⟨rfl, HN.out⟩), Lib.hid (HB0.out.trans (b1.mono HB0.out.size)), Lib.hid (HF0.out.keep b1)⟩
        case rest =>
        obtain ⟨ao', N', k', er, rfl, rfl, HN, HB1, HF1⟩ := hcut
        clear HB0 HF0
        go_upto_region 10 with fail
        go_cut [86] (fun s86 wx => s86 = .bool false ∧ Hid (Below w.heap.size w wx) ∧ Hid (Four wx xb (.int .i64 I) (.int .i64 J) (.int .i8 U) (.int .i64 V)))
        case first => as_aux_lemma =>
          obtain ⟨r, HR0⟩ := right_both ao N k ra L c X Y w HW.out
          obtain ⟨q, HH0⟩ := holds_both ao N k ra L c X Y ta tm tc t w HW.out HT.out
          have HR := Lib.hid HR0
          have HH := Lib.hid HH0
          have t1 : (r != r) = false := by simp
          have t2 : (q != q) = false := by simp
          clear HR0 HH0
          rcases HN.out with ⟨rfl, hn⟩ | ⟨rfl, ⟨hn1, hn2⟩, rfl, HC0⟩
          · clear HN
            rcases hn with hn | hn
            · go_wp2_with (first
              | (go_at_call 11; (with_reducible refine (HR.out.2.1 _ HB1.out).mono ?_); rintro e x2 ⟨rfl, k2⟩; have k1 := k2; have K2 := Lib.hid k2)
              | (go_at_call 10; (with_reducible refine (HR.out.2.2 _ (HB1.out.trans (K2.out.mono HB1.out.size))).mono ?_); rintro e x3 ⟨rfl, k3⟩; have K3 := Lib.hid (K2.out.trans (k3.mono K2.out.size)))
              | (go_at_call 12; (with_reducible refine (HH.out.1 _ (HB1.out.trans (K3.out.mono HB1.out.size))).mono ?_); rintro e x4 ⟨rfl, k4⟩; have K4 := Lib.hid (K3.out.trans (k4.mono K3.out.size)))
              | (go_at_call 13; (with_reducible refine (HH.out.2 _ (HB1.out.trans (K4.out.mono HB1.out.size))).mono ?_); rintro e x5 ⟨rfl, k5⟩; have K5 := Lib.hid (K4.out.trans (k5.mono K4.out.size))))
              go_meet
              exact ⟨rfl, Lib.hid (HB1.out.trans (K5.out.mono HB1.out.size)), Lib.hid (HF1.out.keep K5.out)⟩
            · have hn0 : 0 ≤ n := by omega
              have t4 : decide (n ≤ 24) = false := by simp; omega
              go_wp2_with (first
              | (go_at_call 11; (with_reducible refine (HR.out.2.1 _ HB1.out).mono ?_); rintro e x2 ⟨rfl, k2⟩; have k1 := k2; have K2 := Lib.hid k2)
              | (go_at_call 10; (with_reducible refine (HR.out.2.2 _ (HB1.out.trans (K2.out.mono HB1.out.size))).mono ?_); rintro e x3 ⟨rfl, k3⟩; have K3 := Lib.hid (K2.out.trans (k3.mono K2.out.size)))
              | (go_at_call 12; (with_reducible refine (HH.out.1 _ (HB1.out.trans (K3.out.mono HB1.out.size))).mono ?_); rintro e x4 ⟨rfl, k4⟩; have K4 := Lib.hid (K3.out.trans (k4.mono K3.out.size)))
              | (go_at_call 13; (with_reducible refine (HH.out.2 _ (HB1.out.trans (K4.out.mono HB1.out.size))).mono ?_); rintro e x5 ⟨rfl, k5⟩; have K5 := Lib.hid (K4.out.trans (k5.mono K4.out.size))))
              go_meet
              exact ⟨rfl, Lib.hid (HB1.out.trans (K5.out.mono HB1.out.size)), Lib.hid (HF1.out.keep K5.out)⟩
          · have HC := Lib.hid HC0
            have t3 : ((N' : Int) != (N' : Int)) = false := by simp
            clear HC0 HN
            go_wp2_with (first
              | (go_at_call 10; (fail_if_success (have := k1)); (with_reducible refine (HC.out _ (Below.refl _ _)).mono ?_); rintro e x1 ⟨rfl, k1⟩; have K1 := Lib.hid k1)
              | (go_at_call 11; (with_reducible refine (HR.out.2.1 _ (HB1.out.trans (K1.out.mono HB1.out.size))).mono ?_); rintro e x2 ⟨rfl, k2⟩; have K2 := Lib.hid (K1.out.trans (k2.mono K1.out.size)))
              | (go_at_call 10; (with_reducible refine (HR.out.2.2 _ (HB1.out.trans (K2.out.mono HB1.out.size))).mono ?_); rintro e x3 ⟨rfl, k3⟩; have K3 := Lib.hid (K2.out.trans (k3.mono K2.out.size)))
              | (go_at_call 12; (with_reducible refine (HH.out.1 _ (HB1.out.trans (K3.out.mono HB1.out.size))).mono ?_); rintro e x4 ⟨rfl, k4⟩; have K4 := Lib.hid (K3.out.trans (k4.mono K3.out.size)))
              | (go_at_call 13; (with_reducible refine (HH.out.2 _ (HB1.out.trans (K4.out.mono HB1.out.size))).mono ?_); rintro e x5 ⟨rfl, k5⟩; have K5 := Lib.hid (K4.out.trans (k5.mono K4.out.size))))
            go_meet
            exact ⟨rfl, Lib.hid (HB1.out.trans (K5.out.mono HB1.out.size)), Lib.hid (HF1.out.keep K5.out)⟩
        case rest =>
        obtain ⟨rfl, HB2, HF2⟩ := hcut
        clear HN HB1 HF1
        obtain ⟨r, HR0⟩ := right_both ao N k ra L c X Y w HW.out
        have HR := Lib.hid HR0
        clear HR0
        obtain ⟨fn, hfn⟩ : ∃ fn : Bool, fn = true ↔ (RightIs N L X Y ∧ (0 ≤ I ∧ I < N) ∧ (0 ≤ J ∧ J < N) ∧ allowedB U V = true) := by
          by_cases q : (RightIs N L X Y ∧ (0 ≤ I ∧ I < N) ∧ (0 ≤ J ∧ J < N) ∧ allowedB U V = true)
          · exact ⟨true, by simp [q]⟩
          · exact ⟨false, by simp [q]⟩
        have HFN := Lib.hid hfn
        clear hfn
        go_upto_region 12 with fail
        go_cut [13, 14] (fun s13 s14 wx => ∃ (ao1 : Option Addr) (N1 k1 : Nat) (er1 : Int), s13 = .slice ao1 N1 k1 ∧ s14 = .int .i64 er1 ∧ Hid (SetSaid fn er1 (.slice ao N k) (.slice ao1 N1 k1) (.agg #[.int .i64 I, .int .i64 J, .int .i8 U, .int .i64 V]) wx) ∧ Hid (Below w.heap.size w wx) ∧ Hid (Four wx xb (.int .i64 I) (.int .i64 J) (.int .i8 U) (.int .i64 V)))
        case first => as_aux_lemma =>
          cases fn
          · have A := Lib.hid (set_wrong ao N k ra L c X Y I J U V wc (HW.out.keep HB2.out) (fun z => by have := HFN.out.2 z; cases this))
            obtain ⟨r0, r1, r2, r3⟩ := HF2.out
            go_wp2_with (go_at_call 14; (with_reducible refine (A.out).mono ?_); rintro e w1 ⟨rfl, b1⟩)
            go_meet
            exact ⟨none, 0, 0, 2, rfl, rfl, Lib.hid (.inl ⟨rfl, rfl⟩), Lib.hid (HB2.out.trans (b1.mono HB2.out.size)), Lib.hid (HF2.out.keep b1)⟩
          · obtain ⟨g1, ⟨g2, g3⟩, ⟨g4, g5⟩, g6⟩ := HFN.out.1 rfl
            obtain ⟨I', rfl⟩ := Int.eq_ofNat_of_zero_le g2
            obtain ⟨J', rfl⟩ := Int.eq_ofNat_of_zero_le g4
            have A := Lib.hid (set_ok ao N k ra L c X Y I' J' U V wc (HW.out.keep HB2.out) g1 (by omega) (by omega) g6)
            obtain ⟨r0, r1, r2, r3⟩ := HF2.out
            clear g1 g6
            go_wp2_with (go_at_call 14; (with_reducible refine (A.out).mono ?_); rintro e w1 ⟨ao1, k1, rfl, b1, HC⟩)
            go_meet
            exact ⟨ao1, N, k1, 0, rfl, rfl, Lib.hid (.inr ⟨rfl, rfl, HC⟩), Lib.hid (HB2.out.trans (b1.out.mono HB2.out.size)), Lib.hid (HF2.out.keep b1.out)⟩
        case rest =>
        obtain ⟨ao1, N1, k1, er1, rfl, rfl, HS, HB3, HF3⟩ := hcut
        clear HB2 HF2
        go_upto_region 13 with fail
        go_cut [15] (fun s15 wx => s15 = .bool fn ∧ Hid (Below w.heap.size w wx) ∧ Hid (Below wc.heap.size wc wx) ∧ Hid (Four wx xb (.int .i64 I) (.int .i64 J) (.int .i8 U) (.int .i64 V)))
        case first => as_aux_lemma =>
          cases r
          · have HE : Hid (false = fn) := Lib.hid (by
              cases fn
              · rfl
              · have := HR.out.1.2 (HFN.out.1 rfl).1; cases this)
            go_wp2_with (go_at_call 10; (with_reducible refine (HR.out.2.2 _ HB3.out).mono ?_); rintro e x1 ⟨rfl, k1'⟩; have K1 := Lib.hid k1'; obtain ⟨r0, r1, r2, r3⟩ := HF3.out.keep k1')
            go_meet
            exact ⟨by rw [← HE.out], Lib.hid (HB3.out.trans (K1.out.mono HB3.out.size)), K1, Lib.hid (HF3.out.keep K1.out)⟩
          · have hri := HR.out.1.1 rfl
            have HI : Hid (RightIs N L X Y) := Lib.hid hri
            clear hri
            by_cases i0 : 0 ≤ I
            · by_cases j0 : 0 ≤ J
              · by_cases i1 : I < (N : Int)
                · by_cases j1 : J < (N : Int)
                  · have HE : Hid (allowedB U V = fn) := Lib.hid (by
                      cases hq : allowedB U V
                      · cases fn
                        · rfl
                        · have := (HFN.out.1 rfl).2.2.2; rw [hq] at this; cases this
                      · exact (HFN.out.2 ⟨HI.out, ⟨i0, i1⟩, ⟨j0, j1⟩, hq⟩).symm)
                    have MA := Lib.hid (fun w => may_any U V w)
                    rw [HE.out] at MA
                    go_wp2_with (first
                      | (go_at_call 10; (with_reducible refine (HR.out.2.2 _ HB3.out).mono ?_); rintro e x1 ⟨rfl, k1'⟩; have K1 := Lib.hid k1'; obtain ⟨r0, r1, r2, r3⟩ := HF3.out.keep k1')
                      | (go_at_call 15; (with_reducible refine (MA.out _).mono ?_); rintro e x2 ⟨rfl, k2'⟩; have K2 := Lib.hid (K1.out.trans (k2'.mono K1.out.size))))
                    go_meet
                    exact ⟨rfl, Lib.hid (HB3.out.trans (K2.out.mono HB3.out.size)), K2, Lib.hid (HF3.out.keep K2.out)⟩
                  · have HE : Hid (false = fn) := Lib.hid (by
                        cases fn
                        · rfl
                        · have := HFN.out.1 rfl; omega)
                    go_wp2_with (go_at_call 10; (with_reducible refine (HR.out.2.2 _ HB3.out).mono ?_); rintro e x1 ⟨rfl, k1'⟩; have K1 := Lib.hid k1'; obtain ⟨r0, r1, r2, r3⟩ := HF3.out.keep k1')
                    go_meet
                    exact ⟨by rw [← HE.out], Lib.hid (HB3.out.trans (K1.out.mono HB3.out.size)), K1, Lib.hid (HF3.out.keep K1.out)⟩
                · have HE : Hid (false = fn) := Lib.hid (by
                      cases fn
                      · rfl
                      · have := HFN.out.1 rfl; omega)
                  go_wp2_with (go_at_call 10; (with_reducible refine (HR.out.2.2 _ HB3.out).mono ?_); rintro e x1 ⟨rfl, k1'⟩; have K1 := Lib.hid k1'; obtain ⟨r0, r1, r2, r3⟩ := HF3.out.keep k1')
                  go_meet
                  exact ⟨by rw [← HE.out], Lib.hid (HB3.out.trans (K1.out.mono HB3.out.size)), K1, Lib.hid (HF3.out.keep K1.out)⟩
              · have HE : Hid (false = fn) := Lib.hid (by
                    cases fn
                    · rfl
                    · have := HFN.out.1 rfl; omega)
                go_wp2_with (go_at_call 10; (with_reducible refine (HR.out.2.2 _ HB3.out).mono ?_); rintro e x1 ⟨rfl, k1'⟩; have K1 := Lib.hid k1'; obtain ⟨r0, r1, r2, r3⟩ := HF3.out.keep k1')
                go_meet
                exact ⟨by rw [← HE.out], Lib.hid (HB3.out.trans (K1.out.mono HB3.out.size)), K1, Lib.hid (HF3.out.keep K1.out)⟩
            · have HE : Hid (false = fn) := Lib.hid (by
                  cases fn
                  · rfl
                  · have := HFN.out.1 rfl; omega)
              go_wp2_with (go_at_call 10; (with_reducible refine (HR.out.2.2 _ HB3.out).mono ?_); rintro e x1 ⟨rfl, k1'⟩; have K1 := Lib.hid k1'; obtain ⟨r0, r1, r2, r3⟩ := HF3.out.keep k1')
              go_meet
              exact ⟨by rw [← HE.out], Lib.hid (HB3.out.trans (K1.out.mono HB3.out.size)), K1, Lib.hid (HF3.out.keep K1.out)⟩
        case rest =>
        obtain ⟨rfl, HB4, HK4, HF4⟩ := hcut
        go_upto_region 14 with fail
        go_cut [143] (fun s143 wx => s143 = .bool false ∧ Hid (Below w.heap.size w wx))
        case first => as_aux_lemma =>
          rcases HS.out with ⟨rfl, rfl⟩ | ⟨rfl, rfl, HC0⟩
          · clear HS HFN
            go_wp2
            go_meet
            exact ⟨rfl, HB4⟩
          · have HC := Lib.hid (HC0 _ HK4.out)
            obtain ⟨r0, r1, r2, r3⟩ := HF4.out
            clear HS HFN HC0
            go_wp2_with (go_at_call 16; (with_reducible refine (HC.out).mono ?_); rintro e x1 ⟨rfl, k1'⟩)
            go_meet
            exact ⟨rfl, Lib.hid (HB4.out.trans (k1'.mono HB4.out.size))⟩
        case rest =>
        obtain ⟨rfl, HB5⟩ := hcut
        clear HS HFN HB3 HF3 HB4 HK4 HF4
        cases r
        · have A := Lib.hid (fun w' (hb : Below w.heap.size w w') => close_wrong ao N k ra L c X Y w' (HW.out.keep hb) (fun z => by have := HR.out.1.2 z; cases this))
          go_wp2_with (first
            | (go_at_call 10; (with_reducible refine (HR.out.2.2 _ HB5.out).mono ?_); rintro e x1 ⟨rfl, k1'⟩; have HB6 := Lib.hid (HB5.out.trans (k1'.mono HB5.out.size)))
            | (go_at_call 17; (with_reducible refine (A.out _ HB6.out).mono ?_); rintro e x2 ⟨rfl, k2'⟩; have HB7 := Lib.hid (HB6.out.trans (k2'.mono HB6.out.size)))
            | (go_at_call 8; (with_reducible refine (awake_any _).mono ?_); rintro e x3 ⟨rfl, k3'⟩; have HB8 := Lib.hid (HB7.out.trans (k3'.mono HB7.out.size))))
          go_returns
          exact ⟨rfl, HB8.out⟩
        · have hri := HR.out.1.1 rfl
          have HRI := Lib.hid hri
          obtain ⟨i2, hi2, hy0, hy1, hy2⟩ := info_parts info30
          have HI2 := Lib.hid hi2
          have HY0 := Lib.hid hy0
          have HY1 := Lib.hid hy1
          have HY2 := Lib.hid hy2
          clear hri hi2 hy0 hy1 hy2
          by_cases h0 : 0 < N
          · obtain ⟨g, o, rfl, _⟩ := HW.out.rows h0
            obtain ⟨b, p, M, hnet, hfit⟩ := raw_right HW.out HRI.out
            have hk := HW.out.le
            have hk' := HW.out.top
            have h24 := HRI.out.1
            have HNET := Lib.hid hnet
            have HFIT := Lib.hid hfit
            clear hnet hfit
            have main : ∀ (m : Nat), (m = 6 ∧ 6 < N ∨ m = N ∧ ¬ 6 < N) → m ≤ 6 ∧ m ≤ N ∧ 0 < m := by omega
            by_cases h6 : 6 < N
            · have h6i : (6 : Int) < (N : Int) := by omega
              obtain ⟨m, hm⟩ : ∃ m : Nat, m = 6 := ⟨6, rfl⟩
              have HMM := Lib.hid hm
              have HL := Lib.hid (main m (.inl ⟨hm, h6⟩))
              clear main
              subst hm
              as_aux_lemma =>
              go_upto_region 21 with (go_at_call 10; (with_reducible refine (HR.out.2.2 _ HB5.out).mono ?_); rintro e x1 ⟨rfl, k1'⟩; have HB6 := Lib.hid (HB5.out.trans (k1'.mono HB5.out.size)))
              clear HT HB5 HR
              go_loopw [19, 164] (fun v ii wr => ∃ j : Nat, j ≤ 6 ∧ ii = .int .i64 j ∧ Hid (wr.ownsRow w.heap.size 30 1 v j (cutVals b p c 6 j)) ∧ Hid (Below w.heap.size w wr)) (fun _ ii _ => 6 - (intOf ii).toNat)
              case atStart => exact ⟨0, Nat.zero_le _, rfl, Lib.hid (World.ownsRow_nil _ _ _ _), HB6⟩
              case round =>
                clear HB6
                obtain ⟨j, hj, rfl, HO, HB⟩ := hrel
                by_cases jlt : j < 6
                · have j0 : (0 : Int) ≤ (j : Int) := by omega
                  have j1 : (j : Int) < (6 : Int) := by omega
                  have c1 := (HNET.out.keep HB.out).row j (by omega)
                  have HCC := HNET.out.cap j (by omega)
                  have HC : Hid (cutVals b p c 6 j ++ [.slice (some ⟨b j, p j, none⟩) 6 (c j)] = cutVals b p c 6 (j + 1)) := Lib.hid rfl
                  generalize b j = bj at *
                  generalize p j = pj at *
                  generalize c j = cj at *
                  obtain ⟨cc1, cc2⟩ := HCC
                  have cc3 : (6 : Int) ≤ (cj : Int) := by omega
                  go_wp2_with (at_builtin; refine wpList_append_own _ rfl _ _ 22 rfl w.heap.size 30 i2 (.slice none 0 0) 1 24 Try.underlying22 HI2.out HY0.out HY1.out HY2.out rfl (by decide) u19 j _ (by rfl) (keepB HO.out ((Below.refl _ _).alloc (Nat.le_refl _) _)) ⟨wr.heap.size, 0, none⟩ 1 1 [.slice (some ⟨bj, pj, none⟩) 6 cj] (by rfl) rfl ?hc (by intro z hz; simp at hz; rcases hz with rfl; rfl) (by unfold maxLen; omega) (by omega) (by have := HB.out.size; simp; omega) ?_; (case hc => exact box_one _ _ _); intro v' w3 hown hgro hnil; rw [HC.out] at hown; have HO2 := Lib.hid hown; have HBk := Lib.hid ((HB.out.alloc HB.out.size _).grown hgro (Nat.le_trans HB.out.size (by simp)) (fun q hq => (HO.out.lt q hq).1)); clear hown hgro hnil)
                  go_roundw
                  case rel => exact ⟨j + 1, by omega, by go_num, HO2, HBk⟩
                  case measure => simp [intOf]; omega
                · obtain rfl : j = 6 := by omega
                  obtain ⟨g6, cap, rfl, r1, r2, r3⟩ := cut_done HL.out.2.2 HL.out.2.1 (HNET.out.keep HB.out) HO.out
                  obtain ⟨ok, BC0⟩ := both_net g6 0 6 cap b p c M HL.out.2.2 HL.out.1 r1 r2 (fun i j hi hj => HFIT.out i j (Nat.lt_of_lt_of_le hi HL.out.2.1) (Nat.lt_of_lt_of_le hj HL.out.2.1)) wr r3
                  have BC := Lib.hid BC0
                  have t4 : (ok == ok) = true := by simp
                  clear BC0 r3 HO
                  go_wp2_with (first
                    | (go_at_call 17; (with_reducible refine (BC.out).mono ?_); rintro e y1 ⟨a1, l1, q1, rfl, b1, HD⟩; have HB7 := Lib.hid (HB.out.trans (b1.out.mono HB.out.size)))
                    | (go_at_call 18; (with_reducible refine (HD.out).mono ?_); rintro e y2 ⟨a2, l2, q2, rfl, b2, HE⟩; have HB8 := Lib.hid (HB7.out.trans (b2.out.mono HB7.out.size)))
                    | (go_at_call 19; (with_reducible refine (HE.out _ (Below.refl _ _)).mono ?_); rintro e y3 ⟨rfl, b3⟩; have HB9 := Lib.hid (HB8.out.trans (b3.mono HB8.out.size)))
                    | (go_at_call 8; (with_reducible refine (awake_any _).mono ?_); rintro e y4 ⟨rfl, b4⟩; have HB10 := Lib.hid (HB9.out.trans (b4.mono HB9.out.size))))
                  go_returns
                  exact ⟨rfl, HB10.out⟩
            · have h6i : ¬ (6 : Int) < (N : Int) := by omega
              have h6j : (N : Int) ≤ 6 := by omega
              have HL := Lib.hid (main N (.inr ⟨rfl, h6⟩))
              clear main
              as_aux_lemma =>
              go_upto_region 21 with (go_at_call 10; (with_reducible refine (HR.out.2.2 _ HB5.out).mono ?_); rintro e x1 ⟨rfl, k1'⟩; have HB6 := Lib.hid (HB5.out.trans (k1'.mono HB5.out.size)))
              clear HT HB5 HR
              go_loopw [19, 164] (fun v ii wr => ∃ j : Nat, j ≤ N ∧ ii = .int .i64 j ∧ Hid (wr.ownsRow w.heap.size 30 1 v j (cutVals b p c N j)) ∧ Hid (Below w.heap.size w wr)) (fun _ ii _ => N - (intOf ii).toNat)
              case atStart => exact ⟨0, Nat.zero_le _, rfl, Lib.hid (World.ownsRow_nil _ _ _ _), HB6⟩
              case round =>
                clear HB6
                obtain ⟨j, hj, rfl, HO, HB⟩ := hrel
                by_cases jlt : j < N
                · have j0 : (0 : Int) ≤ (j : Int) := by omega
                  have j1 : (j : Int) < (N : Int) := by omega
                  have c1 := (HNET.out.keep HB.out).row j (by omega)
                  have HCC := HNET.out.cap j (by omega)
                  have HC : Hid (cutVals b p c N j ++ [.slice (some ⟨b j, p j, none⟩) N (c j)] = cutVals b p c N (j + 1)) := Lib.hid rfl
                  generalize b j = bj at *
                  generalize p j = pj at *
                  generalize c j = cj at *
                  obtain ⟨cc1, cc2⟩ := HCC
                  have cc3 : (N : Int) ≤ (cj : Int) := by omega
                  go_wp2_with (at_builtin; refine wpList_append_own _ rfl _ _ 22 rfl w.heap.size 30 i2 (.slice none 0 0) 1 24 Try.underlying22 HI2.out HY0.out HY1.out HY2.out rfl (by decide) u19 j _ (by rfl) (keepB HO.out ((Below.refl _ _).alloc (Nat.le_refl _) _)) ⟨wr.heap.size, 0, none⟩ 1 1 [.slice (some ⟨bj, pj, none⟩) N cj] (by rfl) rfl ?hc (by intro z hz; simp at hz; rcases hz with rfl; rfl) (by unfold maxLen; omega) (by omega) (by have := HB.out.size; simp; omega) ?_; (case hc => exact box_one _ _ _); intro v' w3 hown hgro hnil; rw [HC.out] at hown; have HO2 := Lib.hid hown; have HBk := Lib.hid ((HB.out.alloc HB.out.size _).grown hgro (Nat.le_trans HB.out.size (by simp)) (fun q hq => (HO.out.lt q hq).1)); clear hown hgro hnil)
                  go_roundw
                  case rel => exact ⟨j + 1, by omega, by go_num, HO2, HBk⟩
                  case measure => simp [intOf]; omega
                · obtain rfl : j = N := by omega
                  obtain ⟨g6, cap, rfl, r1, r2, r3⟩ := cut_done HL.out.2.2 HL.out.2.1 (HNET.out.keep HB.out) HO.out
                  obtain ⟨ok, BC0⟩ := both_net g6 0 j cap b p c M HL.out.2.2 HL.out.1 r1 r2 (fun i j hi hj => HFIT.out i j (Nat.lt_of_lt_of_le hi HL.out.2.1) (Nat.lt_of_lt_of_le hj HL.out.2.1)) wr r3
                  have BC := Lib.hid BC0
                  have t4 : (ok == ok) = true := by simp
                  clear BC0 r3 HO
                  go_wp2_with (first
                    | (go_at_call 17; (with_reducible refine (BC.out).mono ?_); rintro e y1 ⟨a1, l1, q1, rfl, b1, HD⟩; have HB7 := Lib.hid (HB.out.trans (b1.out.mono HB.out.size)))
                    | (go_at_call 18; (with_reducible refine (HD.out).mono ?_); rintro e y2 ⟨a2, l2, q2, rfl, b2, HE⟩; have HB8 := Lib.hid (HB7.out.trans (b2.out.mono HB7.out.size)))
                    | (go_at_call 19; (with_reducible refine (HE.out _ (Below.refl _ _)).mono ?_); rintro e y3 ⟨rfl, b3⟩; have HB9 := Lib.hid (HB8.out.trans (b3.mono HB8.out.size)))
                    | (go_at_call 8; (with_reducible refine (awake_any _).mono ?_); rintro e y4 ⟨rfl, b4⟩; have HB10 := Lib.hid (HB9.out.trans (b4.mono HB9.out.size))))
                  go_returns
                  exact ⟨rfl, HB10.out⟩
          · obtain rfl : N = 0 := by omega
            have hbare := HW.out.bare
            have BC1 := fun (w : World) => both_zero w
            cases ao with
            | none =>
              obtain ⟨_, rfl⟩ := hbare rfl
              clear hbare
              as_aux_lemma =>
              go_upto_region 21 with (go_at_call 10; (with_reducible refine (HR.out.2.2 _ HB5.out).mono ?_); rintro e x1 ⟨rfl, k1'⟩; have HB := Lib.hid (HB5.out.trans (k1'.mono HB5.out.size)))
              go_loopw [19, 164] (fun v ii wr => v = .slice none 0 0 ∧ ii = .int .i64 0 ∧ wr = x1) (fun _ ii _ => 0)
              case atStart => exact ⟨rfl, rfl, rfl⟩
              case round =>
                obtain ⟨rfl, rfl, rfl⟩ := hrel
                obtain ⟨ok, BC0⟩ := both_zero wr
                have BC := Lib.hid BC0
                have t4 : (ok == ok) = true := by simp
                clear BC0 HR BC1
                go_wp2_with (first
                  | (go_at_call 17; (with_reducible refine (BC.out).mono ?_); rintro e y1 ⟨a1, l1, q1, rfl, b1, HD⟩; have HB7 := Lib.hid (HB.out.trans (b1.out.mono HB.out.size)))
                  | (go_at_call 18; (with_reducible refine (HD.out).mono ?_); rintro e y2 ⟨a2, l2, q2, rfl, b2, HE⟩; have HB8 := Lib.hid (HB7.out.trans (b2.out.mono HB7.out.size)))
                  | (go_at_call 19; (with_reducible refine (HE.out _ (Below.refl _ _)).mono ?_); rintro e y3 ⟨rfl, b3⟩; have HB9 := Lib.hid (HB8.out.trans (b3.mono HB8.out.size)))
                  | (go_at_call 8; (with_reducible refine (awake_any _).mono ?_); rintro e y4 ⟨rfl, b4⟩; have HB10 := Lib.hid (HB9.out.trans (b4.mono HB9.out.size))))
                go_returns
                exact ⟨rfl, HB10.out⟩
            | some a =>
              obtain ⟨g, o, sp⟩ := a
              clear hbare
              as_aux_lemma =>
              go_upto_region 21 with (go_at_call 10; (with_reducible refine (HR.out.2.2 _ HB5.out).mono ?_); rintro e x1 ⟨rfl, k1'⟩; have HB := Lib.hid (HB5.out.trans (k1'.mono HB5.out.size)))
              go_loopw [19, 164] (fun v ii wr => v = .slice none 0 0 ∧ ii = .int .i64 0 ∧ wr = x1) (fun _ ii _ => 0)
              case atStart => exact ⟨rfl, rfl, rfl⟩
              case round =>
                obtain ⟨rfl, rfl, rfl⟩ := hrel
                obtain ⟨ok, BC0⟩ := both_zero wr
                have BC := Lib.hid BC0
                have t4 : (ok == ok) = true := by simp
                clear BC0 HR BC1
                go_wp2_with (first
                  | (go_at_call 17; (with_reducible refine (BC.out).mono ?_); rintro e y1 ⟨a1, l1, q1, rfl, b1, HD⟩; have HB7 := Lib.hid (HB.out.trans (b1.out.mono HB.out.size)))
                  | (go_at_call 18; (with_reducible refine (HD.out).mono ?_); rintro e y2 ⟨a2, l2, q2, rfl, b2, HE⟩; have HB8 := Lib.hid (HB7.out.trans (b2.out.mono HB7.out.size)))
                  | (go_at_call 19; (with_reducible refine (HE.out _ (Below.refl _ _)).mono ?_); rintro e y3 ⟨rfl, b3⟩; have HB9 := Lib.hid (HB8.out.trans (b3.mono HB8.out.size)))
                  | (go_at_call 8; (with_reducible refine (awake_any _).mono ?_); rintro e y4 ⟨rfl, b4⟩; have HB10 := Lib.hid (HB9.out.trans (b4.mono HB9.out.size))))
                go_returns
                exact ⟨rfl, HB10.out⟩
end Go.Proofs.Ytnhbinghinlhgaa
