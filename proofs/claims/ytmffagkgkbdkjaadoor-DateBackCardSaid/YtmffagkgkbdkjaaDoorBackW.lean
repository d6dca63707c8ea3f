/- DateBack: the walks, one a way. -/
import Derived.Test.YtmffagkgkbdkjaaDoorBackL
import Derived.Test.YtmffagkgkbdkjaaDoorAwake
namespace Go.Proofs.YtmffagkgkbdkjaaDoor
set_option linter.unusedVariables false
open Go.ChangeShapes Go.WideShapes Go.ChangeAt Go.RowKit

/-- What the law answers at one input. -/
abbrev BackLaw (n y k d t : Int) : Prop := ∀ w, Tabs w → Calls Tryd.prog 4 #[.int .i64 n, .int .i64 y, .int .i64 k, .int .i64 d, .int .i64 t] w fun e w' => e = .returned (.bool true) ∧ Below w.heap.size w w'

set_option maxRecDepth 100000 in
set_option maxHeartbeats 4000000 in
theorem back_aaa (n y k d t : Int) (s : ByteArray) (y1 k1 z u e m q : Int) (T : CT n s 30)
    (O2 : CO y k d m 30) (F2 : CF y t q 30) : BackLaw n y k d t := by
  intro w hT
  have HT := Lib.hid hT
  have HB := Lib.hid hT.1
  clear hT
  go_enter Tryd.func4, Tryd.ntmps4
  go_wp2_with (first
    | (go_at_call 19; (with_reducible refine (T.out _ HT.out).mono ?_); rintro e w1 ⟨rfl, b1⟩; have H1 := Lib.hid (HT.out.keep b1); have B1 := Lib.hid (HB.out.keep b1))
    | (go_at_call 11; (with_reducible refine (O2.out _ B1.out).mono ?_); rintro e w3 ⟨rfl, rfl⟩)
    | (go_at_call 17; (with_reducible refine (F2.out _ B1.out).mono ?_); rintro e w3 ⟨rfl, rfl⟩)
    | (go_at_call 8; (with_reducible refine (awake _ H1.out).mono ?_); rintro e w4 ⟨rfl, b4⟩))
  go_returns
  exact ⟨rfl, b1.trans (b4.mono b1.size)⟩

set_option maxRecDepth 100000 in
set_option maxHeartbeats 4000000 in
theorem back_aab (n y k d t : Int) (s : ByteArray) (y1 k1 z u e m q : Int) (T : CT n s 30)
    (O2 : CO y k d m 30) (F2 : CF y t q 0) (N2 : CN q y t 0) : BackLaw n y k d t := by
  intro w hT
  have HT := Lib.hid hT
  have HB := Lib.hid hT.1
  clear hT
  go_enter Tryd.func4, Tryd.ntmps4
  go_wp2_with (first
    | (go_at_call 19; (with_reducible refine (T.out _ HT.out).mono ?_); rintro e w1 ⟨rfl, b1⟩; have H1 := Lib.hid (HT.out.keep b1); have B1 := Lib.hid (HB.out.keep b1))
    | (go_at_call 11; (with_reducible refine (O2.out _ B1.out).mono ?_); rintro e w3 ⟨rfl, rfl⟩)
    | (go_at_call 17; (with_reducible refine (F2.out _ B1.out).mono ?_); rintro e w3 ⟨rfl, rfl⟩)
    | (go_at_call 15; (with_reducible refine (N2.out _ B1.out).mono ?_); rintro e w3 ⟨rfl, rfl⟩)
    | (go_at_call 8; (with_reducible refine (awake _ H1.out).mono ?_); rintro e w4 ⟨rfl, b4⟩))
  go_returns
  exact ⟨rfl, b1.trans (b4.mono b1.size)⟩

set_option maxRecDepth 100000 in
set_option maxHeartbeats 4000000 in
theorem back_aba (n y k d t : Int) (s : ByteArray) (y1 k1 z u e m q : Int) (T : CT n s 30)
    (O2 : CO y k d m 0) (W2 : CW m y k d 0) (F2 : CF y t q 30) : BackLaw n y k d t := by
  intro w hT
  have HT := Lib.hid hT
  have HB := Lib.hid hT.1
  clear hT
  go_enter Tryd.func4, Tryd.ntmps4
  go_wp2_with (first
    | (go_at_call 19; (with_reducible refine (T.out _ HT.out).mono ?_); rintro e w1 ⟨rfl, b1⟩; have H1 := Lib.hid (HT.out.keep b1); have B1 := Lib.hid (HB.out.keep b1))
    | (go_at_call 11; (with_reducible refine (O2.out _ B1.out).mono ?_); rintro e w3 ⟨rfl, rfl⟩)
    | (go_at_call 9; (with_reducible refine (W2.out _ B1.out).mono ?_); rintro e w3 ⟨rfl, rfl⟩)
    | (go_at_call 17; (with_reducible refine (F2.out _ B1.out).mono ?_); rintro e w3 ⟨rfl, rfl⟩)
    | (go_at_call 8; (with_reducible refine (awake _ H1.out).mono ?_); rintro e w4 ⟨rfl, b4⟩))
  go_returns
  exact ⟨rfl, b1.trans (b4.mono b1.size)⟩

set_option maxRecDepth 100000 in
set_option maxHeartbeats 4000000 in
theorem back_abb (n y k d t : Int) (s : ByteArray) (y1 k1 z u e m q : Int) (T : CT n s 30)
    (O2 : CO y k d m 0) (W2 : CW m y k d 0) (F2 : CF y t q 0) (N2 : CN q y t 0) : BackLaw n y k d t := by
  intro w hT
  have HT := Lib.hid hT
  have HB := Lib.hid hT.1
  clear hT
  go_enter Tryd.func4, Tryd.ntmps4
  go_wp2_with (first
    | (go_at_call 19; (with_reducible refine (T.out _ HT.out).mono ?_); rintro e w1 ⟨rfl, b1⟩; have H1 := Lib.hid (HT.out.keep b1); have B1 := Lib.hid (HB.out.keep b1))
    | (go_at_call 11; (with_reducible refine (O2.out _ B1.out).mono ?_); rintro e w3 ⟨rfl, rfl⟩)
    | (go_at_call 9; (with_reducible refine (W2.out _ B1.out).mono ?_); rintro e w3 ⟨rfl, rfl⟩)
    | (go_at_call 17; (with_reducible refine (F2.out _ B1.out).mono ?_); rintro e w3 ⟨rfl, rfl⟩)
    | (go_at_call 15; (with_reducible refine (N2.out _ B1.out).mono ?_); rintro e w3 ⟨rfl, rfl⟩)
    | (go_at_call 8; (with_reducible refine (awake _ H1.out).mono ?_); rintro e w4 ⟨rfl, b4⟩))
  go_returns
  exact ⟨rfl, b1.trans (b4.mono b1.size)⟩

set_option maxRecDepth 100000 in
set_option maxHeartbeats 4000000 in
theorem back_baa (n y k d t : Int) (s : ByteArray) (y1 k1 z u e m q : Int) (T : CT n s 0) (R : CR s n 0) (N : CN n y1 k1 0) (F : CF y1 k1 n 0) (W : CW n z u e 0) (O : CO z u e n 0) (D : CD n e)
    (O2 : CO y k d m 30) (F2 : CF y t q 30) : BackLaw n y k d t := by
  intro w hT
  have HT := Lib.hid hT
  have HB := Lib.hid hT.1
  clear hT
  go_enter Tryd.func4, Tryd.ntmps4
  go_wp2_with (first
    | (go_at_call 19; (with_reducible refine (T.out _ HT.out).mono ?_); rintro e w1 ⟨rfl, b1⟩; have H1 := Lib.hid (HT.out.keep b1); have B1 := Lib.hid (HB.out.keep b1))
    | (go_at_call 21; (with_reducible refine (R.out _ B1.out).mono ?_); rintro e w2 ⟨rfl, b2⟩; have H2 := Lib.hid (H1.out.keep b2); have B2 := Lib.hid (B1.out.keep b2))
    | (go_at_call 15; (with_reducible refine (N.out _ B2.out).mono ?_); rintro e w3 ⟨rfl, rfl⟩)
    | (go_at_call 17; (with_reducible refine (F.out _ B2.out).mono ?_); rintro e w3 ⟨rfl, rfl⟩)
    | (go_at_call 9; (with_reducible refine (W.out _ B2.out).mono ?_); rintro e w3 ⟨rfl, rfl⟩)
    | (go_at_call 11; (with_reducible refine (O.out _ B2.out).mono ?_); rintro e w3 ⟨rfl, rfl⟩)
    | (go_at_call 23; (with_reducible refine (D.out _).mono ?_); rintro e w3 ⟨rfl, rfl⟩)
    | (go_at_call 11; (with_reducible refine (O2.out _ B2.out).mono ?_); rintro e w3 ⟨rfl, rfl⟩)
    | (go_at_call 17; (with_reducible refine (F2.out _ B2.out).mono ?_); rintro e w3 ⟨rfl, rfl⟩)
    | (go_at_call 8; (with_reducible refine (awake _ H2.out).mono ?_); rintro e w4 ⟨rfl, b4⟩))
  go_returns
  exact ⟨rfl, (b1.trans (b2.mono b1.size)).trans (b4.mono (Nat.le_trans b1.size b2.size))⟩

set_option maxRecDepth 100000 in
set_option maxHeartbeats 4000000 in
theorem back_bab (n y k d t : Int) (s : ByteArray) (y1 k1 z u e m q : Int) (T : CT n s 0) (R : CR s n 0) (N : CN n y1 k1 0) (F : CF y1 k1 n 0) (W : CW n z u e 0) (O : CO z u e n 0) (D : CD n e)
    (O2 : CO y k d m 30) (F2 : CF y t q 0) (N2 : CN q y t 0) : BackLaw n y k d t := by
  intro w hT
  have HT := Lib.hid hT
  have HB := Lib.hid hT.1
  clear hT
  go_enter Tryd.func4, Tryd.ntmps4
  go_wp2_with (first
    | (go_at_call 19; (with_reducible refine (T.out _ HT.out).mono ?_); rintro e w1 ⟨rfl, b1⟩; have H1 := Lib.hid (HT.out.keep b1); have B1 := Lib.hid (HB.out.keep b1))
    | (go_at_call 21; (with_reducible refine (R.out _ B1.out).mono ?_); rintro e w2 ⟨rfl, b2⟩; have H2 := Lib.hid (H1.out.keep b2); have B2 := Lib.hid (B1.out.keep b2))
    | (go_at_call 15; (with_reducible refine (N.out _ B2.out).mono ?_); rintro e w3 ⟨rfl, rfl⟩)
    | (go_at_call 17; (with_reducible refine (F.out _ B2.out).mono ?_); rintro e w3 ⟨rfl, rfl⟩)
    | (go_at_call 9; (with_reducible refine (W.out _ B2.out).mono ?_); rintro e w3 ⟨rfl, rfl⟩)
    | (go_at_call 11; (with_reducible refine (O.out _ B2.out).mono ?_); rintro e w3 ⟨rfl, rfl⟩)
    | (go_at_call 23; (with_reducible refine (D.out _).mono ?_); rintro e w3 ⟨rfl, rfl⟩)
    | (go_at_call 11; (with_reducible refine (O2.out _ B2.out).mono ?_); rintro e w3 ⟨rfl, rfl⟩)
    | (go_at_call 17; (with_reducible refine (F2.out _ B2.out).mono ?_); rintro e w3 ⟨rfl, rfl⟩)
    | (go_at_call 15; (with_reducible refine (N2.out _ B2.out).mono ?_); rintro e w3 ⟨rfl, rfl⟩)
    | (go_at_call 8; (with_reducible refine (awake _ H2.out).mono ?_); rintro e w4 ⟨rfl, b4⟩))
  go_returns
  exact ⟨rfl, (b1.trans (b2.mono b1.size)).trans (b4.mono (Nat.le_trans b1.size b2.size))⟩

set_option maxRecDepth 100000 in
set_option maxHeartbeats 4000000 in
theorem back_bba (n y k d t : Int) (s : ByteArray) (y1 k1 z u e m q : Int) (T : CT n s 0) (R : CR s n 0) (N : CN n y1 k1 0) (F : CF y1 k1 n 0) (W : CW n z u e 0) (O : CO z u e n 0) (D : CD n e)
    (O2 : CO y k d m 0) (W2 : CW m y k d 0) (F2 : CF y t q 30) : BackLaw n y k d t := by
  intro w hT
  have HT := Lib.hid hT
  have HB := Lib.hid hT.1
  clear hT
  go_enter Tryd.func4, Tryd.ntmps4
  go_wp2_with (first
    | (go_at_call 19; (with_reducible refine (T.out _ HT.out).mono ?_); rintro e w1 ⟨rfl, b1⟩; have H1 := Lib.hid (HT.out.keep b1); have B1 := Lib.hid (HB.out.keep b1))
    | (go_at_call 21; (with_reducible refine (R.out _ B1.out).mono ?_); rintro e w2 ⟨rfl, b2⟩; have H2 := Lib.hid (H1.out.keep b2); have B2 := Lib.hid (B1.out.keep b2))
    | (go_at_call 15; (with_reducible refine (N.out _ B2.out).mono ?_); rintro e w3 ⟨rfl, rfl⟩)
    | (go_at_call 17; (with_reducible refine (F.out _ B2.out).mono ?_); rintro e w3 ⟨rfl, rfl⟩)
    | (go_at_call 9; (with_reducible refine (W.out _ B2.out).mono ?_); rintro e w3 ⟨rfl, rfl⟩)
    | (go_at_call 11; (with_reducible refine (O.out _ B2.out).mono ?_); rintro e w3 ⟨rfl, rfl⟩)
    | (go_at_call 23; (with_reducible refine (D.out _).mono ?_); rintro e w3 ⟨rfl, rfl⟩)
    | (go_at_call 11; (with_reducible refine (O2.out _ B2.out).mono ?_); rintro e w3 ⟨rfl, rfl⟩)
    | (go_at_call 9; (with_reducible refine (W2.out _ B2.out).mono ?_); rintro e w3 ⟨rfl, rfl⟩)
    | (go_at_call 17; (with_reducible refine (F2.out _ B2.out).mono ?_); rintro e w3 ⟨rfl, rfl⟩)
    | (go_at_call 8; (with_reducible refine (awake _ H2.out).mono ?_); rintro e w4 ⟨rfl, b4⟩))
  go_returns
  exact ⟨rfl, (b1.trans (b2.mono b1.size)).trans (b4.mono (Nat.le_trans b1.size b2.size))⟩

set_option maxRecDepth 100000 in
set_option maxHeartbeats 4000000 in
theorem back_bbb (n y k d t : Int) (s : ByteArray) (y1 k1 z u e m q : Int) (T : CT n s 0) (R : CR s n 0) (N : CN n y1 k1 0) (F : CF y1 k1 n 0) (W : CW n z u e 0) (O : CO z u e n 0) (D : CD n e)
    (O2 : CO y k d m 0) (W2 : CW m y k d 0) (F2 : CF y t q 0) (N2 : CN q y t 0) : BackLaw n y k d t := by
  intro w hT
  have HT := Lib.hid hT
  have HB := Lib.hid hT.1
  clear hT
  go_enter Tryd.func4, Tryd.ntmps4
  go_wp2_with (first
    | (go_at_call 19; (with_reducible refine (T.out _ HT.out).mono ?_); rintro e w1 ⟨rfl, b1⟩; have H1 := Lib.hid (HT.out.keep b1); have B1 := Lib.hid (HB.out.keep b1))
    | (go_at_call 21; (with_reducible refine (R.out _ B1.out).mono ?_); rintro e w2 ⟨rfl, b2⟩; have H2 := Lib.hid (H1.out.keep b2); have B2 := Lib.hid (B1.out.keep b2))
    | (go_at_call 15; (with_reducible refine (N.out _ B2.out).mono ?_); rintro e w3 ⟨rfl, rfl⟩)
    | (go_at_call 17; (with_reducible refine (F.out _ B2.out).mono ?_); rintro e w3 ⟨rfl, rfl⟩)
    | (go_at_call 9; (with_reducible refine (W.out _ B2.out).mono ?_); rintro e w3 ⟨rfl, rfl⟩)
    | (go_at_call 11; (with_reducible refine (O.out _ B2.out).mono ?_); rintro e w3 ⟨rfl, rfl⟩)
    | (go_at_call 23; (with_reducible refine (D.out _).mono ?_); rintro e w3 ⟨rfl, rfl⟩)
    | (go_at_call 11; (with_reducible refine (O2.out _ B2.out).mono ?_); rintro e w3 ⟨rfl, rfl⟩)
    | (go_at_call 9; (with_reducible refine (W2.out _ B2.out).mono ?_); rintro e w3 ⟨rfl, rfl⟩)
    | (go_at_call 17; (with_reducible refine (F2.out _ B2.out).mono ?_); rintro e w3 ⟨rfl, rfl⟩)
    | (go_at_call 15; (with_reducible refine (N2.out _ B2.out).mono ?_); rintro e w3 ⟨rfl, rfl⟩)
    | (go_at_call 8; (with_reducible refine (awake _ H2.out).mono ?_); rintro e w4 ⟨rfl, b4⟩))
  go_returns
  exact ⟨rfl, (b1.trans (b2.mono b1.size)).trans (b4.mono (Nat.le_trans b1.size b2.size))⟩

set_option maxRecDepth 100000 in
set_option maxHeartbeats 4000000 in
theorem back_caa (n y k d t : Int) (s : ByteArray) (y1 k1 z u e m q : Int) (T : CT n s 0) (R : CR s n 0) (N : CN n y1 k1 0) (F : CF y1 k1 n 0) (W : CW n 0 0 0 30) (O : CO 0 0 0 0 30)
    (O2 : CO y k d m 30) (F2 : CF y t q 30) : BackLaw n y k d t := by
  intro w hT
  have HT := Lib.hid hT
  have HB := Lib.hid hT.1
  clear hT
  go_enter Tryd.func4, Tryd.ntmps4
  go_wp2_with (first
    | (go_at_call 19; (with_reducible refine (T.out _ HT.out).mono ?_); rintro e w1 ⟨rfl, b1⟩; have H1 := Lib.hid (HT.out.keep b1); have B1 := Lib.hid (HB.out.keep b1))
    | (go_at_call 21; (with_reducible refine (R.out _ B1.out).mono ?_); rintro e w2 ⟨rfl, b2⟩; have H2 := Lib.hid (H1.out.keep b2); have B2 := Lib.hid (B1.out.keep b2))
    | (go_at_call 15; (with_reducible refine (N.out _ B2.out).mono ?_); rintro e w3 ⟨rfl, rfl⟩)
    | (go_at_call 17; (with_reducible refine (F.out _ B2.out).mono ?_); rintro e w3 ⟨rfl, rfl⟩)
    | (go_at_call 9; (with_reducible refine (W.out _ B2.out).mono ?_); rintro e w3 ⟨rfl, rfl⟩)
    | (go_at_call 11; (with_reducible refine (O.out _ B2.out).mono ?_); rintro e w3 ⟨rfl, rfl⟩)
    | (go_at_call 11; (with_reducible refine (O2.out _ B2.out).mono ?_); rintro e w3 ⟨rfl, rfl⟩)
    | (go_at_call 17; (with_reducible refine (F2.out _ B2.out).mono ?_); rintro e w3 ⟨rfl, rfl⟩)
    | (go_at_call 8; (with_reducible refine (awake _ H2.out).mono ?_); rintro e w4 ⟨rfl, b4⟩))
  go_returns
  exact ⟨rfl, (b1.trans (b2.mono b1.size)).trans (b4.mono (Nat.le_trans b1.size b2.size))⟩

set_option maxRecDepth 100000 in
set_option maxHeartbeats 4000000 in
theorem back_cab (n y k d t : Int) (s : ByteArray) (y1 k1 z u e m q : Int) (T : CT n s 0) (R : CR s n 0) (N : CN n y1 k1 0) (F : CF y1 k1 n 0) (W : CW n 0 0 0 30) (O : CO 0 0 0 0 30)
    (O2 : CO y k d m 30) (F2 : CF y t q 0) (N2 : CN q y t 0) : BackLaw n y k d t := by
  intro w hT
  have HT := Lib.hid hT
  have HB := Lib.hid hT.1
  clear hT
  go_enter Tryd.func4, Tryd.ntmps4
  go_wp2_with (first
    | (go_at_call 19; (with_reducible refine (T.out _ HT.out).mono ?_); rintro e w1 ⟨rfl, b1⟩; have H1 := Lib.hid (HT.out.keep b1); have B1 := Lib.hid (HB.out.keep b1))
    | (go_at_call 21; (with_reducible refine (R.out _ B1.out).mono ?_); rintro e w2 ⟨rfl, b2⟩; have H2 := Lib.hid (H1.out.keep b2); have B2 := Lib.hid (B1.out.keep b2))
    | (go_at_call 15; (with_reducible refine (N.out _ B2.out).mono ?_); rintro e w3 ⟨rfl, rfl⟩)
    | (go_at_call 17; (with_reducible refine (F.out _ B2.out).mono ?_); rintro e w3 ⟨rfl, rfl⟩)
    | (go_at_call 9; (with_reducible refine (W.out _ B2.out).mono ?_); rintro e w3 ⟨rfl, rfl⟩)
    | (go_at_call 11; (with_reducible refine (O.out _ B2.out).mono ?_); rintro e w3 ⟨rfl, rfl⟩)
    | (go_at_call 11; (with_reducible refine (O2.out _ B2.out).mono ?_); rintro e w3 ⟨rfl, rfl⟩)
    | (go_at_call 17; (with_reducible refine (F2.out _ B2.out).mono ?_); rintro e w3 ⟨rfl, rfl⟩)
    | (go_at_call 15; (with_reducible refine (N2.out _ B2.out).mono ?_); rintro e w3 ⟨rfl, rfl⟩)
    | (go_at_call 8; (with_reducible refine (awake _ H2.out).mono ?_); rintro e w4 ⟨rfl, b4⟩))
  go_returns
  exact ⟨rfl, (b1.trans (b2.mono b1.size)).trans (b4.mono (Nat.le_trans b1.size b2.size))⟩

set_option maxRecDepth 100000 in
set_option maxHeartbeats 4000000 in
theorem back_cba (n y k d t : Int) (s : ByteArray) (y1 k1 z u e m q : Int) (T : CT n s 0) (R : CR s n 0) (N : CN n y1 k1 0) (F : CF y1 k1 n 0) (W : CW n 0 0 0 30) (O : CO 0 0 0 0 30)
    (O2 : CO y k d m 0) (W2 : CW m y k d 0) (F2 : CF y t q 30) : BackLaw n y k d t := by
  intro w hT
  have HT := Lib.hid hT
  have HB := Lib.hid hT.1
  clear hT
  go_enter Tryd.func4, Tryd.ntmps4
  go_wp2_with (first
    | (go_at_call 19; (with_reducible refine (T.out _ HT.out).mono ?_); rintro e w1 ⟨rfl, b1⟩; have H1 := Lib.hid (HT.out.keep b1); have B1 := Lib.hid (HB.out.keep b1))
    | (go_at_call 21; (with_reducible refine (R.out _ B1.out).mono ?_); rintro e w2 ⟨rfl, b2⟩; have H2 := Lib.hid (H1.out.keep b2); have B2 := Lib.hid (B1.out.keep b2))
    | (go_at_call 15; (with_reducible refine (N.out _ B2.out).mono ?_); rintro e w3 ⟨rfl, rfl⟩)
    | (go_at_call 17; (with_reducible refine (F.out _ B2.out).mono ?_); rintro e w3 ⟨rfl, rfl⟩)
    | (go_at_call 9; (with_reducible refine (W.out _ B2.out).mono ?_); rintro e w3 ⟨rfl, rfl⟩)
    | (go_at_call 11; (with_reducible refine (O.out _ B2.out).mono ?_); rintro e w3 ⟨rfl, rfl⟩)
    | (go_at_call 11; (with_reducible refine (O2.out _ B2.out).mono ?_); rintro e w3 ⟨rfl, rfl⟩)
    | (go_at_call 9; (with_reducible refine (W2.out _ B2.out).mono ?_); rintro e w3 ⟨rfl, rfl⟩)
    | (go_at_call 17; (with_reducible refine (F2.out _ B2.out).mono ?_); rintro e w3 ⟨rfl, rfl⟩)
    | (go_at_call 8; (with_reducible refine (awake _ H2.out).mono ?_); rintro e w4 ⟨rfl, b4⟩))
  go_returns
  exact ⟨rfl, (b1.trans (b2.mono b1.size)).trans (b4.mono (Nat.le_trans b1.size b2.size))⟩

set_option maxRecDepth 100000 in
set_option maxHeartbeats 4000000 in
theorem back_cbb (n y k d t : Int) (s : ByteArray) (y1 k1 z u e m q : Int) (T : CT n s 0) (R : CR s n 0) (N : CN n y1 k1 0) (F : CF y1 k1 n 0) (W : CW n 0 0 0 30) (O : CO 0 0 0 0 30)
    (O2 : CO y k d m 0) (W2 : CW m y k d 0) (F2 : CF y t q 0) (N2 : CN q y t 0) : BackLaw n y k d t := by
  intro w hT
  have HT := Lib.hid hT
  have HB := Lib.hid hT.1
  clear hT
  go_enter Tryd.func4, Tryd.ntmps4
  go_wp2_with (first
    | (go_at_call 19; (with_reducible refine (T.out _ HT.out).mono ?_); rintro e w1 ⟨rfl, b1⟩; have H1 := Lib.hid (HT.out.keep b1); have B1 := Lib.hid (HB.out.keep b1))
    | (go_at_call 21; (with_reducible refine (R.out _ B1.out).mono ?_); rintro e w2 ⟨rfl, b2⟩; have H2 := Lib.hid (H1.out.keep b2); have B2 := Lib.hid (B1.out.keep b2))
    | (go_at_call 15; (with_reducible refine (N.out _ B2.out).mono ?_); rintro e w3 ⟨rfl, rfl⟩)
    | (go_at_call 17; (with_reducible refine (F.out _ B2.out).mono ?_); rintro e w3 ⟨rfl, rfl⟩)
    | (go_at_call 9; (with_reducible refine (W.out _ B2.out).mono ?_); rintro e w3 ⟨rfl, rfl⟩)
    | (go_at_call 11; (with_reducible refine (O.out _ B2.out).mono ?_); rintro e w3 ⟨rfl, rfl⟩)
    | (go_at_call 11; (with_reducible refine (O2.out _ B2.out).mono ?_); rintro e w3 ⟨rfl, rfl⟩)
    | (go_at_call 9; (with_reducible refine (W2.out _ B2.out).mono ?_); rintro e w3 ⟨rfl, rfl⟩)
    | (go_at_call 17; (with_reducible refine (F2.out _ B2.out).mono ?_); rintro e w3 ⟨rfl, rfl⟩)
    | (go_at_call 15; (with_reducible refine (N2.out _ B2.out).mono ?_); rintro e w3 ⟨rfl, rfl⟩)
    | (go_at_call 8; (with_reducible refine (awake _ H2.out).mono ?_); rintro e w4 ⟨rfl, b4⟩))
  go_returns
  exact ⟨rfl, (b1.trans (b2.mono b1.size)).trans (b4.mono (Nat.le_trans b1.size b2.size))⟩

theorem back_law (n y k d t : Int) (w : World) (hT : Tabs w) :
    Calls Tryd.prog 4 #[.int .i64 n, .int .i64 y, .int .i64 k, .int .i64 d, .int .i64 t] w fun e w' => e = .returned (.bool true) ∧ Below w.heap.size w w' := by
  rcases bk1 n with T | ⟨s, y1, k1, z, u, e, T, R, N, F, ⟨W, O, D⟩ | ⟨W, O⟩⟩
  · rcases bk2 y k d with ⟨m, O2⟩ | ⟨m, O2, W2⟩
    · rcases bk3 y t with ⟨q, F2⟩ | ⟨q, F2, N2⟩
      · exact back_aaa n y k d t ⟨#[]⟩ 0 0 0 0 0 m q T O2 F2 w hT
      · exact back_aab n y k d t ⟨#[]⟩ 0 0 0 0 0 m q T O2 F2 N2 w hT
    · rcases bk3 y t with ⟨q, F2⟩ | ⟨q, F2, N2⟩
      · exact back_aba n y k d t ⟨#[]⟩ 0 0 0 0 0 m q T O2 W2 F2 w hT
      · exact back_abb n y k d t ⟨#[]⟩ 0 0 0 0 0 m q T O2 W2 F2 N2 w hT
  · rcases bk2 y k d with ⟨m, O2⟩ | ⟨m, O2, W2⟩
    · rcases bk3 y t with ⟨q, F2⟩ | ⟨q, F2, N2⟩
      · exact back_baa n y k d t s y1 k1 z u e m q T R N F W O D O2 F2 w hT
      · exact back_bab n y k d t s y1 k1 z u e m q T R N F W O D O2 F2 N2 w hT
    · rcases bk3 y t with ⟨q, F2⟩ | ⟨q, F2, N2⟩
      · exact back_bba n y k d t s y1 k1 z u e m q T R N F W O D O2 W2 F2 w hT
      · exact back_bbb n y k d t s y1 k1 z u e m q T R N F W O D O2 W2 F2 N2 w hT
  · rcases bk2 y k d with ⟨m, O2⟩ | ⟨m, O2, W2⟩
    · rcases bk3 y t with ⟨q, F2⟩ | ⟨q, F2, N2⟩
      · exact back_caa n y k d t s y1 k1 0 0 0 m q T R N F W O O2 F2 w hT
      · exact back_cab n y k d t s y1 k1 0 0 0 m q T R N F W O O2 F2 N2 w hT
    · rcases bk3 y t with ⟨q, F2⟩ | ⟨q, F2, N2⟩
      · exact back_cba n y k d t s y1 k1 0 0 0 m q T R N F W O O2 W2 F2 w hT
      · exact back_cbb n y k d t s y1 k1 0 0 0 m q T R N F W O O2 W2 F2 N2 w hT
end Go.Proofs.YtmffagkgkbdkjaaDoor
