/- DateBack: what is told of a day, and what says a day. -/
import Derived.Test.YtmffagkgkbdkjaaDoorRd
import Derived.Test.YtmffagkgkbdkjaaDoorText
import Derived.Test.YtmffagkgkbdkjaaDoorWeeks
namespace Go.Proofs.YtmffagkgkbdkjaaDoor
set_option linter.unusedVariables false
set_option linter.unusedSimpArgs false
open Go.ChangeShapes Go.WideShapes Go.ChangeAt Go.RowKit
open Cal (dg)

abbrev CW (n a b c d : Int) : Prop := Hid (∀ w, Tab w → Calls Tryd.prog 9 #[.int .i64 n] w fun e w' => e = .returned (.tuple #[.int .i64 a, .int .i64 b, .int .i64 c, .int .i64 d]) ∧ w = w')
abbrev CO (y k d a b : Int) : Prop := Hid (∀ w, Tab w → Calls Tryd.prog 11 #[.int .i64 y, .int .i64 k, .int .i64 d] w fun e w' => e = .returned (.tuple #[.int .i64 a, .int .i64 b]) ∧ w = w')
abbrev CN (n a b c : Int) : Prop := Hid (∀ w, Tab w → Calls Tryd.prog 15 #[.int .i64 n] w fun e w' => e = .returned (.tuple #[.int .i64 a, .int .i64 b, .int .i64 c]) ∧ w = w')
abbrev CF (y k a b : Int) : Prop := Hid (∀ w, Tab w → Calls Tryd.prog 17 #[.int .i64 y, .int .i64 k] w fun e w' => e = .returned (.tuple #[.int .i64 a, .int .i64 b]) ∧ w = w')
abbrev CT (n : Int) (s : ByteArray) (a : Int) : Prop := Hid (∀ w, Tabs w → Calls Tryd.prog 19 #[.int .i64 n] w fun e w' => e = .returned (.tuple #[.string s, .int .i64 a]) ∧ Below w.heap.size w w')
abbrev CR (s : ByteArray) (a b : Int) : Prop := Hid (∀ w, Tab w → Calls Tryd.prog 21 #[.string s] w fun e w' => e = .returned (.tuple #[.int .i64 a, .int .i64 b]) ∧ Below w.heap.size w w')
abbrev CD (n a : Int) : Prop := Hid (∀ w, Calls Tryd.prog 23 #[.int .i64 n] w fun e w' => e = .returned (.int .i64 a) ∧ w = w')

theorem dg_nat {n : Nat} (h : n < 10) : (dg n).toNat = 48 + n := by
  unfold dg
  rw [UInt8.toNat_ofNat']
  omega
theorem vd_dg {n : Nat} (h : n < 10) : vd (dg n) = n := by unfold vd; rw [dg_nat h]; omega
theorem dg_ne {n : Nat} (h : n < 10) : dg n ≠ 45 := fun e => by
  have := dg_nat h
  rw [e] at this
  simp at this
  omega
theorem pre_dg {n : Nat} (h : n < 10) (t : List UInt8) : Lib.hasPrefix (dg n :: t) [45] = false := by
  unfold Lib.hasPrefix
  simp [List.isPrefixOf]
  exact fun e => dg_ne h e.symm
theorem pre_45 (t : List UInt8) : Lib.hasPrefix (45 :: t) [45] = true := by
  unfold Lib.hasPrefix
  simp [List.isPrefixOf]
theorem trim_dg {n : Nat} (h : n < 10) (t : List UInt8) : Lib.trimPrefix (dg n :: t) [45] = dg n :: t := by
  unfold Lib.trimPrefix
  rw [pre_dg h]; rfl
theorem trim_45 (t : List UInt8) : Lib.trimPrefix (45 :: t) [45] = t := by
  unfold Lib.trimPrefix
  rw [pre_45]; rfl

/-- The digits of a year. -/
def yl (y : Nat) (t : List UInt8) : List UInt8 := dg (y / 1000) :: dg (y / 100 % 10) :: dg (y / 10 % 10) :: dg (y % 10) :: t
theorem yl_fit {y : Nat} (h : y < 10000) : fitY (dg (y / 1000)) (dg (y / 100 % 10)) (dg (y / 10 % 10)) (dg (y % 10)) := by
  unfold fitY
  rw [dg_nat (by omega), dg_nat (by omega), dg_nat (by omega), dg_nat (by omega)]
  omega
theorem yl_val {y : Nat} (h : y < 10000) : valY (dg (y / 1000)) (dg (y / 100 % 10)) (dg (y / 10 % 10)) (dg (y % 10)) = y := by
  unfold valY
  rw [vd_dg (by omega), vd_dg (by omega), vd_dg (by omega), vd_dg (by omega)]
  omega
theorem readOf_pos {y : Nat} (h : y < 10000) (t : List UInt8) : readOf (yl y t) = tailOf y t := by
  unfold readOf yl
  rw [pre_dg (by omega), trim_dg (by omega)]
  simp only [restOf]
  rw [if_pos (yl_fit h), yl_val h]
  simp
theorem readOf_neg {y : Nat} (h : y < 10000) (h0 : 1 ≤ y) (t : List UInt8) : readOf (45 :: yl y t) = tailOf (-(y : Int)) t := by
  unfold readOf yl
  rw [pre_45, trim_45]
  simp only [restOf]
  rw [if_pos (yl_fit h), yl_val h]
  rw [if_neg (by omega)]
  simp
/-- Behind the year: month and day; the day of the year; week and weekday. -/
def mdl (m d : Nat) : List UInt8 := [45, dg (m / 10), dg (m % 10), 45, dg (d / 10), dg (d % 10)]
def ndl (n : Nat) : List UInt8 := [45, dg (n / 100), dg (n / 10 % 10), dg (n % 10)]
def wdl (k d : Nat) : List UInt8 := [45, 87, dg (k / 10), dg (k % 10), 45, dg d]
theorem tail_md (y : Int) {m d : Nat} (hm : m < 100) (hd : d < 100) : tailOf y (mdl m d) = onDate y m d := by
  unfold mdl
  simp only [tailOf]
  rw [if_pos (by unfold fitD; rw [dg_nat (by omega), dg_nat (by omega), dg_nat (by omega), dg_nat (by omega)]; simp; omega), vd_dg (by omega), vd_dg (by omega), vd_dg (by omega), vd_dg (by omega)]
  congr 1 <;> omega
theorem tail_nd (y : Int) {n : Nat} (hn : n < 1000) : tailOf y (ndl n) = onNth y n := by
  unfold ndl
  simp only [tailOf]
  rw [if_pos (by unfold fitN; rw [dg_nat (by omega), dg_nat (by omega), dg_nat (by omega)]; simp; omega), vd_dg (by omega), vd_dg (by omega), vd_dg (by omega)]
  congr 1; omega
theorem tail_wd (y : Int) {k d : Nat} (hk : k < 100) (hd : d < 10) : tailOf y (wdl k d) = onWeek y k d := by
  unfold wdl
  simp only [tailOf]
  rw [if_neg (by unfold fitD; simp), if_pos (by unfold fitW; rw [dg_nat (by omega), dg_nat (by omega), dg_nat (by omega)]; simp; omega), vd_dg (by omega), vd_dg (by omega), vd_dg (by omega)]
  congr 1; omega

/-- The text of a date. -/
def txt (y : Int) (m d : Nat) : List UInt8 := if 0 ≤ y then yl y.toNat (mdl m d) else 45 :: yl (-y).toNat (mdl m d)
theorem text_is (y : Int) (m d : Nat) (v : Cal.Valid y m d) (hm : m < 100) (hd : d < 100) : CT (Cal.num y m d) ⟨(txt y m d).toArray⟩ 0 := by
  by_cases c : 0 ≤ y
  · obtain ⟨z, rfl⟩ := Int.eq_ofNat_of_zero_le c
    unfold txt
    rw [if_pos c]
    exact Lib.hid fun w hT => text_pos z m d w hT v hm hd
  · unfold txt
    rw [if_neg c]
    exact Lib.hid fun w hT => text_neg y (-y).toNat m d (by omega) w hT v (by omega) hm hd
theorem txt_read (y : Int) (m d : Nat) (v : Cal.Valid y m d) (hm : m < 100) (hd : d < 100) : readOf (txt y m d) = some (Cal.num y m d) := by
  have y1 := v.y1
  have y2 := v.y2
  unfold txt
  split
  · rw [readOf_pos (by omega), tail_md _ hm hd, Int.toNat_of_nonneg (by omega)]
    unfold onDate; rw [if_pos v]
  · rw [readOf_neg (by omega) (by omega), tail_md _ hm hd, Int.toNat_of_nonneg (by omega), Int.neg_neg]
    unfold onDate; rw [if_pos v]
theorem cr_any (s : List UInt8) : CR ⟨s.toArray⟩ (toldN (readOf s)) (toldE (readOf s)) := Lib.hid fun w hT => read_any ⟨s.toArray⟩ w hT

/-- Day, year of the week, week and weekday belong together. -/
theorem ofweek_back (n Y : Int) (h1 : -9999 ≤ Y) (h2 : Y ≤ 9999) (a : Cal.op Y ≤ n) (b : n < Cal.op (Y + 1)) (c : -4371587 ≤ n) (d : n < 2932897) : CO Y ((n - Cal.op Y) / 7 + 1) (Cal.wd n) n 0 := by
  have on := Cal.op_next Y h1 h2
  have wb := Cal.wd_bd n
  have ow := Cal.op_wd Y n
  refine Lib.hid fun w hT => ?_
  have h := ofweek_ok Y ((n - Cal.op Y) / 7 + 1) (Cal.wd n) w hT (by omega) (by omega) wb.1 wb.2 (by omega) (by omega)
  rw [show Cal.op Y + ((n - Cal.op Y) / 7 + 1 - 1) * 7 + (Cal.wd n - 1) = n by omega] at h
  exact h

theorem bk1 (n : Int) : CT n ⟨#[]⟩ 30 ∨
    ∃ s y k z u d, CT n s 0 ∧ CR s n 0 ∧ CN n y k 0 ∧ CF y k n 0 ∧ ((CW n z u d 0 ∧ CO z u d n 0 ∧ CD n d) ∨ (CW n 0 0 0 30 ∧ CO 0 0 0 0 30)) := by
  by_cases r : -4371587 ≤ n ∧ n < 2932897
  · obtain ⟨y, m, d, v, rfl⟩ := Cal.some_date n r.1 r.2
    have mo := v.month
    have lb := Cal.len_bd y m mo.1 mo.2
    have d1 := v.d1
    have d2 := v.d2
    have wi := v.within
    have ss := Cal.start_succ y
    obtain ⟨m', rfl⟩ := Int.eq_ofNat_of_zero_le (show 0 ≤ m by omega)
    obtain ⟨d', rfl⟩ := Int.eq_ofNat_of_zero_le (show 0 ≤ d by omega)
    have R := cr_any (txt y m' d')
    rw [txt_read y m' d' v (by omega) (by omega)] at R
    have F := fun w hT => ofnth_ok y (Cal.num y m' d' - Cal.start y + 1) w hT v.y1 v.y2 (by omega) (by omega)
    rw [show Cal.start y + (Cal.num y m' d' - Cal.start y + 1 - 1) = Cal.num y m' d' by omega] at F
    have core : ∃ z u e, ((CW (Cal.num y m' d') z u e 0 ∧ CO z u e (Cal.num y m' d') 0 ∧ CD (Cal.num y m' d') e) ∨ (CW (Cal.num y m' d') 0 0 0 30 ∧ CO 0 0 0 0 30)) := by
      rcases week_cases (Cal.num y m' d') (by omega) (by omega) with ⟨Y, h1, h2, s1, s2, a, b, c, d, H⟩ | ⟨x, H⟩
      · exact ⟨_, _, _, .inl ⟨H, ofweek_back _ Y h1 h2 a b c d, Lib.hid fun w => weekday_any _ w⟩⟩
      · exact ⟨0, 0, 0, .inr ⟨H, Lib.hid fun w hT => ofweek_no 0 0 0 w hT (by omega)⟩⟩
    obtain ⟨z, u, e, core⟩ := core
    exact .inr ⟨_, _, _, z, u, e, text_is y m' d' v (by omega) (by omega), R, Lib.hid fun w hT => nth_ok y m' d' w hT v, Lib.hid F, core⟩
  · exact .inl (Lib.hid fun w hT => (text_no n w r).mono fun e w' ⟨he, hw⟩ => ⟨he, hw ▸ Below.refl _ _⟩)

theorem bk2 (y k d : Int) : (∃ x, CO y k d x 30) ∨ ∃ n, CO y k d n 0 ∧ CW n y k d 0 := by
  by_cases h : 1 ≤ k ∧ k ≤ Cal.weeks y ∧ 1 ≤ d ∧ d ≤ 7
  · obtain ⟨h1, h2, h3, h4⟩ := h
    by_cases r : -4371587 ≤ Cal.op y + (k - 1) * 7 + (d - 1) ∧ Cal.op y + (k - 1) * 7 + (d - 1) < 2932897
    · have cv := Cal.weeks_cov y (by omega)
      have on := Cal.op_next y cv.1 cv.2
      have ow := Cal.op_wd y (Cal.op y + (k - 1) * 7 + (d - 1))
      have o1 : Cal.start y ≤ Cal.op y + 3 ∧ Cal.op y + 3 < Cal.start y + 7 := by unfold Cal.op Cal.wd; omega
      have o2 : Cal.start (y + 1) ≤ Cal.op (y + 1) + 3 ∧ Cal.op (y + 1) + 3 < Cal.start (y + 1) + 7 := by unfold Cal.op Cal.wd; omega
      have s1 : -4371587 ≤ Cal.start y := by unfold Cal.start; omega
      have s2 : Cal.start (y + 1) ≤ 2932897 := by unfold Cal.start; omega
      refine .inr ⟨_, Lib.hid fun w hT => ofweek_ok y k d w hT h1 h2 h3 h4 r.1 r.2, Lib.hid fun w hT => ?_⟩
      have H := week_at (Cal.op y + (k - 1) * 7 + (d - 1)) y w hT cv.1 cv.2 (by omega) (by omega) r.1 r.2 (by omega) (by omega)
      rw [show (Cal.op y + (k - 1) * 7 + (d - 1) - Cal.op y) / 7 + 1 = k by omega, show Cal.wd (Cal.op y + (k - 1) * 7 + (d - 1)) = d by omega] at H
      exact H
    · exact .inl ⟨0, Lib.hid fun w hT => ofweek_out y k d w hT h1 h2 h3 h4 r⟩
  · exact .inl ⟨0, Lib.hid fun w hT => ofweek_no y k d w hT h⟩

theorem bk3 (y k : Int) : (∃ x, CF y k x 30) ∨ ∃ n, CF y k n 0 ∧ CN n y k 0 := by
  by_cases h : -9999 ≤ y ∧ y ≤ 9999 ∧ 1 ≤ k ∧ k ≤ 365 + Cal.lp y
  · obtain ⟨h1, h2, h3, h4⟩ := h
    have ss := Cal.start_succ y
    have sb := Cal.start_bd y h1 (by omega)
    have l := Cal.lp_01 y
    have s2 : Cal.start (y + 1) ≤ 2932897 := by unfold Cal.start; omega
    refine .inr ⟨_, Lib.hid fun w hT => ofnth_ok y k w hT h1 h2 h3 h4, Lib.hid fun w hT => ?_⟩
    obtain ⟨z, m, d, v, e⟩ := Cal.some_date (Cal.start y + (k - 1)) (by omega) (by omega)
    have wi := v.within
    have yz : z = y := by
      have := v.y1
      have := v.y2
      rcases (show z = y ∨ z + 1 ≤ y ∨ y + 1 ≤ z by omega) with q | q | q
      · exact q
      · have := Cal.start_mono (z + 1) y q; omega
      · have := Cal.start_mono (y + 1) z q; omega
    subst yz
    have H := nth_ok z m d w hT v
    rw [e, show Cal.start z + (k - 1) - Cal.start z + 1 = k by omega] at H
    exact H
  · exact .inl ⟨0, Lib.hid fun w hT => ofnth_no y k w h⟩
end Go.Proofs.YtmffagkgkbdkjaaDoor
