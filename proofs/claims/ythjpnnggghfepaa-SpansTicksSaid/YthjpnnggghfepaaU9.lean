/- Contracts: awake. -/
import Derived.Test.YthjpnnggghfepaaU8
namespace Go.Proofs.Ythjpnnggghfepaa
set_option linter.unusedVariables false
set_option linter.unusedSimpArgs false
open Go.ChangeShapes Go.WideShapes Go.ChangeAt Go.RowKit
theorem of_at (W : World) (cells : Array Value) (zs : List Int) (l : List Sp) (t : TypeId) (m n c : Nat) (hcs : cells = (zs.map (Value.int .i64)).toArray) (he : pairs zs m = l) (hm : m ≤ 1000000) (hn : n = 2 * m) (hz : zs.length = n) :
    Calls Try.prog 34 #[.slice (some ⟨W.heap.size, 0, none⟩) n c] (W.alloc (.cells cells t)) fun e w' => ∃ ao k, e = .returned (.slice ao m k) ∧ SpAt w' ao m k l ∧ Below W.heap.size W w' := by
  subst he hcs; exact of_lit W zs t m n c hm hn hz
theorem is_at (W : World) (ao : Option Addr) (k kc : Nat) (l : List Sp) (hl : SpAt W ao k kc l) (cells : Array Value) (zs : List Int) (t : TypeId) (m n c : Nat) (hcs : cells = (zs.map (Value.int .i64)).toArray) (he : l = pairs zs m) (hm : m ≤ 1000000) (hn : n = 2 * m) (hz : zs.length = n) :
    Calls Try.prog 35 #[.slice ao k kc, .slice (some ⟨W.heap.size, 0, none⟩) n c] (W.alloc (.cells cells t)) fun e w' => e = .returned (.bool true) ∧ Below W.heap.size W w' := by
  subst hcs; exact is_lit W ao k kc l hl zs t m n c hm hn hz he
theorem hull_at (ao : Option Addr) (c : Nat) (w : World) (hw : SpAt w ao 2 c [(1, 2), (5, 7)]) :
    Calls Try.prog 30 #[.slice ao 2 c] w fun e w' => e = .returned (.tuple #[.agg #[.int .i64 1, .int .i64 7], .bool true]) ∧ Below w.heap.size w w' := by
  have h := hull_any ao 2 c _ w hw
  rw [show hullA [(1, 2), (5, 7)] = 1 from rfl, show hullB [(1, 2), (5, 7)] = 7 from rfl, show decide (0 < 2) = true from rfl] at h
  exact h
theorem count_at (ao : Option Addr) (c : Nat) (w : World) (hw : SpAt w ao 2 c [(1, 2), (5, 7)]) :
    Calls Try.prog 28 #[.slice ao 2 c] w fun e w' => e = .returned (.int .i64 5) ∧ Below w.heap.size w w' := count_any ao 2 c _ w hw good_j
set_option maxHeartbeats 1000000 in
set_option maxRecDepth 10000 in
theorem awake_any (w : World) : Calls Try.prog 9 #[] w fun e w' => e = .returned (.bool true) ∧ Below w.heap.size w w' := by
  go_enter Try.func9, Try.ntmps9
  go_upto_region 2 with (first
    | (go_at_call 34; (with_reducible refine (of_at w #[.int .i64 5, .int .i64 7, .int .i64 1, .int .i64 2, .int .i64 3, .int .i64 3] [5, 7, 1, 2, 3, 3] [(5, 7), (1, 2), (3, 3)] 3 3 6 6 rfl rfl (by decide) rfl rfl).mono ?_); rintro e w1 ⟨o1, k1, rfl, h1, q1⟩)
    | (go_at_call 11; refine (make_right [(5, 7), (1, 2), (3, 3)] [(1, 3), (5, 7)] good_a mem_a (by simp) (by simp [TkSp]) o1 3 k1 (by decide) w1 h1).mono ?_; rintro e w2 ⟨a1, c1, rfl, q2, s1⟩))
  have B2 := Lib.hid (q1.trans (q2.mono q1.size))
  have S1 := Lib.hid s1
  clear q1 q2 h1 s1
  go_upto_region 3 with (first
    | (go_at_call 34; (with_reducible refine (of_at w2 #[.int .i64 3, .int .i64 2] [3, 2] [(3, 2)] 3 1 2 2 rfl rfl (by decide) rfl rfl).mono ?_); rintro e w3 ⟨o2, k2, rfl, h2, q3⟩)
    | (go_at_call 11; refine (make_wrong [(3, 2)] ⟨(3, 2), by simp, by decide⟩ o2 1 k2 (by decide) w3 h2).mono ?_; rintro e w4 ⟨rfl, q4⟩))
  have B4 := Lib.hid (B2.out.trans ((q3.trans (q4.mono q3.size)).mono B2.out.size))
  have S2 := Lib.hid ((S1.out.keep q3).keep q4)
  clear q3 q4 h2 B2 S1
  go_upto_region 4 with (first
    | (go_at_call 34; (with_reducible refine (of_at w4 #[.int .i64 1, .int .i64 9] [1, 9] [(1, 9)] 3 1 2 2 rfl rfl (by decide) rfl rfl).mono ?_); rintro e w5 ⟨a5, c5, rfl, h5, q5⟩)
    | (go_at_call 34; (with_reducible refine (of_at w5 #[.int .i64 0, .int .i64 2, .int .i64 8, .int .i64 12] [0, 2, 8, 12] [(0, 2), (8, 12)] 3 2 4 4 rfl rfl (by decide) rfl rfl).mono ?_); rintro e w6 ⟨a6, c6, rfl, h6, q6⟩))
  have B6 := Lib.hid (B4.out.trans ((q5.trans (q6.mono q5.size)).mono B4.out.size))
  have S6 := Lib.hid ((S2.out.keep q5).keep q6)
  have F5 := Lib.hid (h5.keep q6)
  have F6 := Lib.hid h6
  clear q5 q6 h5 h6 B4 S2
  go_upto_region 5 with (first
    | (go_at_call 34; (with_reducible refine (of_at w6 #[.int .i64 1, .int .i64 2, .int .i64 5, .int .i64 7] [1, 2, 5, 7] [(1, 2), (5, 7)] 3 2 4 4 rfl rfl (by decide) rfl rfl).mono ?_); rintro e w7 ⟨o7, k7, rfl, h7, q7⟩)
    | (go_at_call 30; refine (hull_at o7 k7 w7 h7).mono ?_; rintro e w8 ⟨rfl, q8⟩))
  have q68 := q7.trans (q8.mono q7.size)
  have q69 := q68.trans (((Below.refl _ w8).alloc (Nat.le_refl _) (.cells #[.int .i64 1, .int .i64 7] 35)).mono q68.size)
  obtain ⟨bx, hbx⟩ : ∃ bx, w8.heap.size = bx := ⟨_, rfl⟩
  have b1 := (box_cells w8 (.int .i64 1) (.int .i64 7) 35).1
  have b2 := (box_cells w8 (.int .i64 1) (.int .i64 7) 35).2
  obtain ⟨w9, hw9⟩ : ∃ w9, w8.alloc (.cells #[.int .i64 1, .int .i64 7] 35) = w9 := ⟨_, rfl⟩
  rw [hw9] at q69 b1 b2
  rw [hbx] at b1 b2
  rw [hw9, hbx]
  have S9 := Lib.hid (S6.out.keep q69)
  have G5 := Lib.hid (F5.out.keep q69)
  have G6 := Lib.hid (F6.out.keep q69)
  have B9 := Lib.hid (B6.out.trans (q69.mono B6.out.size))
  clear q69 q68 q7 q8 h7 hw9 S6 F5 F6 B6
  go_upto_region 6 with (first
    | (go_at_call 34; (with_reducible refine (of_at w9 #[.int .i64 5, .int .i64 7] [5, 7] [(5, 7)] 3 1 2 2 rfl rfl (by decide) rfl rfl).mono ?_); rintro e w10 ⟨o10, k10, rfl, h10, r10⟩)
    | (go_at_call 31; (with_reducible refine (move_right [(5, 7)] good_d (-5) (by decide) (by decide) (by simp [okSp]) o10 1 k10 (by decide) w10 h10).mono ?_); rintro e w11 ⟨a9, c9, rfl, r11, h11⟩))
  have q911 := r10.trans (r11.mono r10.size)
  have HA0 : Hid (Aw w w11 a1 a5 a6 a9 c1 c5 c6 c9 bx) := Lib.hid ⟨S9.out.keep q911, G5.out.keep q911, G6.out.keep q911, h11, cell_keep b1 q911, cell_keep b2 q911, B9.out.trans (q911.mono B9.out.size)⟩
  clear q911 r10 r11 h10 h11 b1 b2 S9 G5 G6 B9
  go_wp2_with (first
    | (go_at_call 35; (with_reducible refine (is_at w11 a1 2 c1 [(1, 3), (5, 7)] HA0.out.p1 #[.int .i64 1, .int .i64 3, .int .i64 5, .int .i64 7] [1, 3, 5, 7] 3 2 4 4 rfl rfl (by decide) rfl rfl).mono ?_); rintro e w12 ⟨rfl, r12⟩; have HA1 := Lib.hid (HA0.out.keep r12))
    | (go_at_call 34; (with_reducible refine (of_at w12 #[.int .i64 1, .int .i64 3] [1, 3] [(1, 3)] 3 1 2 2 rfl rfl (by decide) rfl rfl).mono ?_); rintro e w13 ⟨o13, k13, rfl, h13, r13⟩; have HA2 := Lib.hid (HA1.out.keep r13))
    | (go_at_call 34; (with_reducible refine (of_at w13 #[.int .i64 4, .int .i64 5] [4, 5] [(4, 5)] 3 1 2 2 rfl rfl (by decide) rfl rfl).mono ?_); rintro e w14 ⟨o14, k14, rfl, h14, r14⟩; have HA3 := Lib.hid (HA2.out.keep r14); have h13 := h13.keep r14)
    | (go_at_call 18; (with_reducible refine (union_is o13 o14 1 k13 1 k14 [(1, 3)] [(4, 5)] [(1, 5)] good_e good_f good_g (by decide) (by decide) w14 h13 h14 mem_g).mono ?_); rintro e w15 ⟨o15, k15, rfl, h15, r15⟩; have HA4 := Lib.hid (HA3.out.keep r15); have h15 : SpAt w15 o15 1 k15 [(1, 5)] := h15)
    | (go_at_call 35; (with_reducible refine (is_at w15 o15 1 k15 [(1, 5)] h15 #[.int .i64 1, .int .i64 5] [1, 5] 3 1 2 2 rfl rfl (by decide) rfl rfl).mono ?_); rintro e w16 ⟨rfl, r16⟩; have HA5 := Lib.hid (HA4.out.keep r16))
    | (go_at_call 19; (with_reducible refine (cut_is a5 a6 1 c5 2 c6 [(1, 9)] [(0, 2), (8, 12)] [(1, 2), (8, 9)] good_b good_c good_h (by decide) (by decide) w16 HA5.out.p5 HA5.out.p6 mem_h).mono ?_); rintro e w17 ⟨o17, k17, rfl, h17, r17⟩; have HA6 := Lib.hid (HA5.out.keep r17); have h17 : SpAt w17 o17 2 k17 [(1, 2), (8, 9)] := h17)
    | (go_at_call 35; (with_reducible refine (is_at w17 o17 2 k17 [(1, 2), (8, 9)] h17 #[.int .i64 1, .int .i64 2, .int .i64 8, .int .i64 9] [1, 2, 8, 9] 3 2 4 4 rfl rfl (by decide) rfl rfl).mono ?_); rintro e w18 ⟨rfl, r18⟩; have HA7 := Lib.hid (HA6.out.keep r18))
    | (go_at_call 20; (with_reducible refine (less_is a5 a6 1 c5 2 c6 [(1, 9)] [(0, 2), (8, 12)] [(3, 7)] good_b good_c good_i (by decide) (by decide) w18 HA7.out.p5 HA7.out.p6 mem_i).mono ?_); rintro e w19 ⟨o19, k19, rfl, h19, r19⟩; have HA8 := Lib.hid (HA7.out.keep r19); have h19 : SpAt w19 o19 1 k19 [(3, 7)] := h19)
    | (go_at_call 35; (with_reducible refine (is_at w19 o19 1 k19 [(3, 7)] h19 #[.int .i64 3, .int .i64 7] [3, 7] 3 1 2 2 rfl rfl (by decide) rfl rfl).mono ?_); rintro e w20 ⟨rfl, r20⟩; have HA9 := Lib.hid (HA8.out.keep r20); have b1 := HA9.out.b1; have b2 := HA9.out.b2)
    | (go_at_call 34; (with_reducible refine (of_at w20 #[.int .i64 1, .int .i64 2, .int .i64 5, .int .i64 7] [1, 2, 5, 7] [(1, 2), (5, 7)] 3 2 4 4 rfl rfl (by decide) rfl rfl).mono ?_); rintro e w21 ⟨o21, k21, rfl, h21, r21⟩; have HB1 := Lib.hid (HA9.out.keep r21))
    | (go_at_call 28; (with_reducible refine (count_at o21 k21 w21 h21).mono ?_); rintro e w22 ⟨rfl, r22⟩; have HB2 := Lib.hid (HB1.out.keep r22))
    | (go_at_call 35; (with_reducible refine (is_at w22 a9 1 c9 [(0, 2)] HB2.out.p9 #[.int .i64 0, .int .i64 2] [0, 2] 3 1 2 2 rfl rfl (by decide) rfl rfl).mono ?_); rintro e w23 ⟨rfl, r23⟩; have HB3 := Lib.hid (HB2.out.keep r23)))
  go_returns
  exact ⟨rfl, HB3.out.bw⟩
end Go.Proofs.Ythjpnnggghfepaa
