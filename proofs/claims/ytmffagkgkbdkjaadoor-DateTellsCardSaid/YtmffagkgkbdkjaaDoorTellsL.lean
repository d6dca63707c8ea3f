/- DateTells: the law, put together. -/
import Derived.Test.YtmffagkgkbdkjaaDoorR10
import Derived.Test.YtmffagkgkbdkjaaDoorWeeks
import Derived.Test.YtmffagkgkbdkjaaDoorAwake
namespace Go.Proofs.YtmffagkgkbdkjaaDoor
set_option linter.unusedVariables false
set_option linter.unusedSimpArgs false
open Go.ChangeShapes Go.WideShapes Go.ChangeAt Go.RowKit

set_option maxRecDepth 100000 in
set_option maxHeartbeats 4000000 in
theorem tells_long (n y k d t : Int) (s : ByteArray) (hs : (40 : Int) < (s.size : Int)) (w : World) (hT : Tabs w) :
    Calls Tryd.prog 3 #[.int .i64 n, .int .i64 y, .int .i64 k, .int .i64 d, .int .i64 t, .string s] w fun e w' => e = .returned (.bool true) ∧ Below w.heap.size w w' := by
  have HT := Lib.hid hT
  clear hT
  go_enter Tryd.func3, Tryd.ntmps3
  go_wp2_with (go_at_call 8; (with_reducible refine (awake _ HT.out).mono ?_); rintro e w1 ⟨rfl, b1⟩)
  go_returns
  exact ⟨rfl, b1⟩

theorem nth_none (n : Int) (w : World) (h : ¬ (-4371587 ≤ n ∧ n < 2932897)) :
    Calls Tryd.prog 15 #[.int .i64 n] w fun e w' => e = .returned (.tuple #[.int .i64 0, .int .i64 0, .int .i64 30]) ∧ w = w' := by
  have D := Lib.hid (fun w => date_err n w h)
  clear h
  go_enter Tryd.func15, Tryd.ntmps15
  go_wp2_with (go_at_call 28; (with_reducible refine (D.out _).mono ?_); rintro e w' ⟨rfl, rfl⟩)
  go_returns
  exact ⟨rfl, rfl⟩
abbrev RW (n a b c d : Int) : Prop := Hid (∀ w, Calls Tryd.prog 10 #[.int .i64 n] w fun e w' => e = .returned (.tuple #[.int .i64 a, .int .i64 b, .int .i64 c, .int .i64 d]) ∧ w = w')
abbrev RO (y k d a b : Int) : Prop := Hid (∀ w, Calls Tryd.prog 12 #[.int .i64 y, .int .i64 k, .int .i64 d] w fun e w' => e = .returned (.tuple #[.int .i64 a, .int .i64 b]) ∧ w = w')
abbrev RN (n a b c : Int) : Prop := Hid (∀ w, Calls Tryd.prog 16 #[.int .i64 n] w fun e w' => e = .returned (.tuple #[.int .i64 a, .int .i64 b, .int .i64 c]) ∧ w = w')
abbrev RF (y k a b : Int) : Prop := Hid (∀ w, Calls Tryd.prog 18 #[.int .i64 y, .int .i64 k] w fun e w' => e = .returned (.tuple #[.int .i64 a, .int .i64 b]) ∧ w = w')
abbrev RR (s : ByteArray) (a b : Int) : Prop := Hid (∀ w, Calls Tryd.prog 22 #[.string s] w fun e w' => e = .returned (.tuple #[.int .i64 a, .int .i64 b]) ∧ Below w.heap.size w w')
abbrev CE (y a : Int) : Prop := Hid (∀ w, Tab w → Calls Tryd.prog 13 #[.int .i64 y] w fun e w' => e = .returned (.int .i64 a) ∧ w = w')
abbrev RE (y a : Int) : Prop := Hid (∀ w, Calls Tryd.prog 14 #[.int .i64 y] w fun e w' => e = .returned (.int .i64 a) ∧ w = w')

set_option maxRecDepth 100000 in
set_option maxHeartbeats 4000000 in
theorem tells_none (n y k d t : Int) (s : ByteArray) (hs : ¬ (40 : Int) < (s.size : Int)) (a b c f m h u v i l p q r : Int) (W : CW n a b c f) (W' : RW n a b c f) (O : CO y k d m h) (O' : RO y k d m h) (E : CE y u) (E' : RE y u)
    (N : CN n v i l) (N' : RN n v i l) (F : CF y t p q) (F' : RF y t p q) (T : CT n ⟨#[]⟩ 30) (X : TextsNone n) (z z' : Int) (R : CR s z z') (R' : RR s z z') (w : World) (hT : Tabs w) :
    Calls Tryd.prog 3 #[.int .i64 n, .int .i64 y, .int .i64 k, .int .i64 d, .int .i64 t, .string s] w fun e w' => e = .returned (.bool true) ∧ Below w.heap.size w w' := by
  have HT := Lib.hid hT
  have HB := Lib.hid hT.1
  clear hT
  go_enter Tryd.func3, Tryd.ntmps3
  go_wp2_with (first
    | (go_at_call 9; (with_reducible refine (W.out _ HB.out).mono ?_); rintro e w' ⟨rfl, rfl⟩)
    | (go_at_call 10; (with_reducible refine (W'.out _).mono ?_); rintro e w' ⟨rfl, rfl⟩)
    | (go_at_call 11; (with_reducible refine (O.out _ HB.out).mono ?_); rintro e w' ⟨rfl, rfl⟩)
    | (go_at_call 12; (with_reducible refine (O'.out _).mono ?_); rintro e w' ⟨rfl, rfl⟩)
    | (go_at_call 13; (with_reducible refine (E.out _ HB.out).mono ?_); rintro e w' ⟨rfl, rfl⟩)
    | (go_at_call 14; (with_reducible refine (E'.out _).mono ?_); rintro e w' ⟨rfl, rfl⟩)
    | (go_at_call 15; (with_reducible refine (N.out _ HB.out).mono ?_); rintro e w' ⟨rfl, rfl⟩)
    | (go_at_call 16; (with_reducible refine (N'.out _).mono ?_); rintro e w' ⟨rfl, rfl⟩)
    | (go_at_call 17; (with_reducible refine (F.out _ HB.out).mono ?_); rintro e w' ⟨rfl, rfl⟩)
    | (go_at_call 18; (with_reducible refine (F'.out _).mono ?_); rintro e w' ⟨rfl, rfl⟩)
    | (go_at_call 19; (with_reducible refine (T.out _ HT.out).mono ?_); rintro e w1 ⟨rfl, b1⟩; have H1 := Lib.hid (HT.out.keep b1); have B1 := Lib.hid (HB.out.keep b1))
    | (go_at_call 20; (with_reducible refine (X.out _).mono ?_); rintro e w2 ⟨rfl, rfl⟩)
    | (go_at_call 21; (with_reducible refine (R.out _ B1.out).mono ?_); rintro e w3 ⟨rfl, b3⟩; have H3 := Lib.hid (H1.out.keep b3))
    | (go_at_call 22; (with_reducible refine (R'.out _).mono ?_); rintro e w4 ⟨rfl, b4⟩; have H4 := Lib.hid (H3.out.keep b4))
    | (go_at_call 8; (with_reducible refine (awake _ H4.out).mono ?_); rintro e w5 ⟨rfl, b5⟩))
  go_returns
  exact ⟨rfl, b1.trans ((b3.trans ((b4.trans (b5.mono b4.size)).mono b3.size)).mono b1.size)⟩

set_option maxRecDepth 100000 in
set_option maxHeartbeats 4000000 in
theorem tells_some (n y k d t : Int) (s : ByteArray) (hs : ¬ (40 : Int) < (s.size : Int)) (a b c f m h u v i l p q r : Int) (W : CW n a b c f) (W' : RW n a b c f) (O : CO y k d m h) (O' : RO y k d m h) (E : CE y u) (E' : RE y u)
    (N : CN n v i l) (N' : RN n v i l) (F : CF y t p q) (F' : RF y t p q) (x : ByteArray) (L : List ByteArray) (T : CT n x 0) (X : TextsAt n (x :: L)) (z z' : Int) (R : CR s z z') (R' : RR s z z') (w : World) (hT : Tabs w) :
    Calls Tryd.prog 3 #[.int .i64 n, .int .i64 y, .int .i64 k, .int .i64 d, .int .i64 t, .string s] w fun e w' => e = .returned (.bool true) ∧ Below w.heap.size w w' := by
  obtain ⟨N0, hN0⟩ : ∃ N0, (x :: L).length = N0 := ⟨_, rfl⟩
  have hN1 : (0 : Int) < (N0 : Int) := by rw [← hN0]; simp
  have hN2 : ((N0 : Int) == 0) = false := by rw [beq_eq_false_iff_ne]; omega
  have HX := Lib.hid (show ∀ (w : World) (g : Nat), (∀ (j : Nat) (hj : j < (x :: L).length), w.cell? ⟨g, j, none⟩ = some (.string (x :: L)[j])) → w.cell? ⟨g, 0, none⟩ = some (.string x) from fun w g h => h 0 (by simp))
  have X : Hid (∀ w, Calls Tryd.prog 20 #[.int .i64 n] w fun e w' => ∃ g cap, e = .returned (.slice (some ⟨g, 0, none⟩) N0 cap) ∧ N0 ≤ cap ∧ cap ≤ maxLen ∧ w'.cell? ⟨g, 0, none⟩ = some (.string x) ∧ Below w.heap.size w w') :=
    Lib.hid fun w => (X.out w).mono fun e w' ⟨g, cap, h1, h2, h3, h4, h5⟩ => ⟨g, cap, by rw [← hN0]; exact h1, by rw [← hN0]; exact h2, h3, HX.out w' g h4.out, h5⟩
  clear hN0 HX
  have HT := Lib.hid hT
  have HB := Lib.hid hT.1
  clear hT
  go_enter Tryd.func3, Tryd.ntmps3
  go_wp2_with (first
    | (go_at_call 9; (with_reducible refine (W.out _ HB.out).mono ?_); rintro e w' ⟨rfl, rfl⟩)
    | (go_at_call 10; (with_reducible refine (W'.out _).mono ?_); rintro e w' ⟨rfl, rfl⟩)
    | (go_at_call 11; (with_reducible refine (O.out _ HB.out).mono ?_); rintro e w' ⟨rfl, rfl⟩)
    | (go_at_call 12; (with_reducible refine (O'.out _).mono ?_); rintro e w' ⟨rfl, rfl⟩)
    | (go_at_call 13; (with_reducible refine (E.out _ HB.out).mono ?_); rintro e w' ⟨rfl, rfl⟩)
    | (go_at_call 14; (with_reducible refine (E'.out _).mono ?_); rintro e w' ⟨rfl, rfl⟩)
    | (go_at_call 15; (with_reducible refine (N.out _ HB.out).mono ?_); rintro e w' ⟨rfl, rfl⟩)
    | (go_at_call 16; (with_reducible refine (N'.out _).mono ?_); rintro e w' ⟨rfl, rfl⟩)
    | (go_at_call 17; (with_reducible refine (F.out _ HB.out).mono ?_); rintro e w' ⟨rfl, rfl⟩)
    | (go_at_call 18; (with_reducible refine (F'.out _).mono ?_); rintro e w' ⟨rfl, rfl⟩)
    | (go_at_call 19; (with_reducible refine (T.out _ HT.out).mono ?_); rintro e w1 ⟨rfl, b1⟩; have H1 := Lib.hid (HT.out.keep b1); have B1 := Lib.hid (HB.out.keep b1))
    | (go_at_call 20; (with_reducible refine (X.out _).mono ?_); rintro e w2 ⟨g, cap, rfl, hcap1, hcap2, c0, b2⟩; have H2 := Lib.hid (H1.out.keep b2); have B2 := Lib.hid (B1.out.keep b2))
    | (go_at_call 21; (with_reducible refine (R.out _ B2.out).mono ?_); rintro e w3 ⟨rfl, b3⟩; have H3 := Lib.hid (H2.out.keep b3))
    | (go_at_call 22; (with_reducible refine (R'.out _).mono ?_); rintro e w4 ⟨rfl, b4⟩; have H4 := Lib.hid (H3.out.keep b4))
    | (go_at_call 8; (with_reducible refine (awake _ H4.out).mono ?_); rintro e w5 ⟨rfl, b5⟩))
  go_returns
  exact ⟨rfl, b1.trans ((b2.trans ((b3.trans ((b4.trans (b5.mono b4.size)).mono b3.size)).mono b2.size)).mono b1.size)⟩

theorem tells_law (n y k d t : Int) (s : ByteArray) (w : World) (hT : Tabs w) (t1 : -9223372036854775808 ≤ t) (t2 : t ≤ 9223372036854775807) :
    Calls Tryd.prog 3 #[.int .i64 n, .int .i64 y, .int .i64 k, .int .i64 d, .int .i64 t, .string s] w fun e w' => e = .returned (.bool true) ∧ Below w.heap.size w w' := by
  by_cases hs : (40 : Int) < (s.size : Int)
  · exact tells_long n y k d t s hs w hT
  · have O : CO y k d _ _ := Lib.hid fun w hT => ofweek_told y k d w hT
    have O' : RO y k d _ _ := Lib.hid fun w => rofweek_told y k d w
    have E : CE y _ := Lib.hid fun w hT => weeks_any y w hT
    have E' : RE y _ := Lib.hid fun w => rweeks_any y w
    have F : CF y t _ _ := Lib.hid fun w hT => ofnth_told y t w hT
    have F' : RF y t _ _ := Lib.hid fun w => rofnth_told y t w t1 t2
    have R : CR s _ _ := Lib.hid fun w hT => read_any s w hT
    have R' : RR s _ _ := Lib.hid fun w => rread_any s (by omega) w
    by_cases r : -4371587 ≤ n ∧ n < 2932897
    · have W : ∃ a b c f, CW n a b c f ∧ RW n a b c f := by
        rcases week_cases n (by omega) (by omega) with ⟨Y, h1, h2, s1, s2, a, b, c, d, H⟩ | ⟨x, H⟩
        · exact ⟨_, _, _, _, H, Lib.hid fun w => rweek_ok n Y w h1 h2 a b c d⟩
        · exact ⟨_, _, _, _, H, Lib.hid fun w => rweek_no n w x⟩
      obtain ⟨a, b, c, f, W, W'⟩ := W
      obtain ⟨y', m, d', v, rfl⟩ := Cal.some_date n r.1 r.2
      have mo := v.month
      have lb := Cal.len_bd y' m mo.1 mo.2
      have d1 := v.d1
      have d2 := v.d2
      obtain ⟨m', rfl⟩ := Int.eq_ofNat_of_zero_le (show 0 ≤ m by omega)
      obtain ⟨d', rfl⟩ := Int.eq_ofNat_of_zero_le (show 0 ≤ d' by omega)
      obtain ⟨L, X⟩ := texts_some y' m' d' v (by omega) (by omega)
      exact tells_some _ y k d t s hs a b c f _ _ _ _ _ _ _ _ 0 W W' O O' E E' (Lib.hid fun w hT => nth_ok y' m' d' w hT v) (Lib.hid fun w => rnth_ok y' m' d' w v) F F' _ L (text_is y' m' d' v (by omega) (by omega)) (texts_cells X (by simp)) _ _ R R' w hT
    · exact tells_none n y k d t s hs 0 0 0 30 _ _ _ 0 0 30 _ _ 0 (Lib.hid fun w hT => week_out n w hT r) (Lib.hid fun w => rweek_no n w (fun h => r ⟨h.1, h.2.1⟩)) O O' E E' (Lib.hid fun w hT => nth_none n w r) (Lib.hid fun w => rnth_no n w r) F F'
        (Lib.hid fun w hT => (text_no n w r).mono fun e w' ⟨he, hw⟩ => ⟨he, hw ▸ Below.refl _ _⟩) (Lib.hid (texts_zero n r)) _ _ R R' w hT
end Go.Proofs.YtmffagkgkbdkjaaDoor
