/- DateBack: what is told of a day, and what says a day. -/
import Derived.Test.YthkddellilhhaaaGreatDoorRd
import Derived.Test.YthkddellilhhaaaGreatDoorText
namespace Go.Proofs.YthkddellilhhaaaGreatDoor
set_option linter.unusedVariables false
set_option linter.unusedSimpArgs false
open Go.ChangeShapes Go.WideShapes Go.ChangeAt Go.RowKit
open Cal (dg)

abbrev CO (y k d a b : Int) : Prop := Hid (∀ w, Tab w → Calls Tryz.prog 92 #[.int .i64 y, .int .i64 k, .int .i64 d] w fun e w' => e = .returned (.tuple #[.int .i64 a, .int .i64 b]) ∧ w = w')
abbrev CF (y k a b : Int) : Prop := Hid (∀ w, Tab w → Calls Tryz.prog 94 #[.int .i64 y, .int .i64 k] w fun e w' => e = .returned (.tuple #[.int .i64 a, .int .i64 b]) ∧ w = w')
abbrev CT (n : Int) (s : ByteArray) (a : Int) : Prop := Hid (∀ w, Tabs w → Calls Tryz.prog 18 #[.int .i64 n] w fun e w' => e = .returned (.tuple #[.string s, .int .i64 a]) ∧ Below w.heap.size w w')
abbrev CR (s : ByteArray) (a b : Int) : Prop := Hid (∀ w, Tab w → Calls Tryz.prog 48 #[.string s] w fun e w' => e = .returned (.tuple #[.int .i64 a, .int .i64 b]) ∧ Below w.heap.size w w')
abbrev CD (n a : Int) : Prop := Hid (∀ w, Calls Tryz.prog 122 #[.int .i64 n] w fun e w' => e = .returned (.int .i64 a) ∧ w = w')

theorem dg_nat {n : Nat} (h : n < 10) : (dg n).toNat = 48 + n := by
  unfold dg
  rw [UInt8.toNat_ofNat']
  omega
theorem vd_dg {n : Nat} (h : n < 10) : vd (dg n) = n := by unfold vd; rw [dg_nat h]; omega
theorem dg_ne {n : Nat} (h : n < 10) : dg n ≠ 45 := fun e => by
  have := dg_nat h
  rw [e] at this
  simp at this
  omega
theorem pre_dg {n : Nat} (h : n < 10) (t : List UInt8) : Lib.hasPrefix (dg n :: t) [45] = false := by
  unfold Lib.hasPrefix
  simp [List.isPrefixOf]
  exact fun e => dg_ne h e.symm
theorem pre_45 (t : List UInt8) : Lib.hasPrefix (45 :: t) [45] = true := by
  unfold Lib.hasPrefix
  simp [List.isPrefixOf]
theorem trim_dg {n : Nat} (h : n < 10) (t : List UInt8) : Lib.trimPrefix (dg n :: t) [45] = dg n :: t := by
  unfold Lib.trimPrefix
  rw [pre_dg h]; rfl
theorem trim_45 (t : List UInt8) : Lib.trimPrefix (45 :: t) [45] = t := by
  unfold Lib.trimPrefix
  rw [pre_45]; rfl

/-- The digits of a year. -/
def yl (y : Nat) (t : List UInt8) : List UInt8 := dg (y / 1000) :: dg (y / 100 % 10) :: dg (y / 10 % 10) :: dg (y % 10) :: t
theorem yl_fit {y : Nat} (h : y < 10000) : fitY (dg (y / 1000)) (dg (y / 100 % 10)) (dg (y / 10 % 10)) (dg (y % 10)) := by
  unfold fitY
  rw [dg_nat (by omega), dg_nat (by omega), dg_nat (by omega), dg_nat (by omega)]
  omega
theorem yl_val {y : Nat} (h : y < 10000) : valY (dg (y / 1000)) (dg (y / 100 % 10)) (dg (y / 10 % 10)) (dg (y % 10)) = y := by
  unfold valY
  rw [vd_dg (by omega), vd_dg (by omega), vd_dg (by omega), vd_dg (by omega)]
  omega
theorem readOf_pos {y : Nat} (h : y < 10000) (t : List UInt8) : readOf (yl y t) = tailOf y t := by
  unfold readOf yl
  rw [pre_dg (by omega), trim_dg (by omega)]
  simp only [restOf]
  rw [if_pos (yl_fit h), yl_val h]
  simp
theorem readOf_neg {y : Nat} (h : y < 10000) (h0 : 1 ≤ y) (t : List UInt8) : readOf (45 :: yl y t) = tailOf (-(y : Int)) t := by
  unfold readOf yl
  rw [pre_45, trim_45]
  simp only [restOf]
  rw [if_pos (yl_fit h), yl_val h]
  rw [if_neg (by omega)]
  simp
/-- Behind the year: month and day; the day of the year; week and weekday. -/
def mdl (m d : Nat) : List UInt8 := [45, dg (m / 10), dg (m % 10), 45, dg (d / 10), dg (d % 10)]
def ndl (n : Nat) : List UInt8 := [45, dg (n / 100), dg (n / 10 % 10), dg (n % 10)]
def wdl (k d : Nat) : List UInt8 := [45, 87, dg (k / 10), dg (k % 10), 45, dg d]
theorem tail_md (y : Int) {m d : Nat} (hm : m < 100) (hd : d < 100) : tailOf y (mdl m d) = onDate y m d := by
  unfold mdl
  simp only [tailOf]
  rw [if_pos (by unfold fitD; rw [dg_nat (by omega), dg_nat (by omega), dg_nat (by omega), dg_nat (by omega)]; simp; omega), vd_dg (by omega), vd_dg (by omega), vd_dg (by omega), vd_dg (by omega)]
  congr 1 <;> omega
theorem tail_nd (y : Int) {n : Nat} (hn : n < 1000) : tailOf y (ndl n) = onNth y n := by
  unfold ndl
  simp only [tailOf]
  rw [if_pos (by unfold fitN; rw [dg_nat (by omega), dg_nat (by omega), dg_nat (by omega)]; simp; omega), vd_dg (by omega), vd_dg (by omega), vd_dg (by omega)]
  congr 1; omega
theorem tail_wd (y : Int) {k d : Nat} (hk : k < 100) (hd : d < 10) : tailOf y (wdl k d) = onWeek y k d := by
  unfold wdl
  simp only [tailOf]
  rw [if_neg (by unfold fitD; simp), if_pos (by unfold fitW; rw [dg_nat (by omega), dg_nat (by omega), dg_nat (by omega)]; simp; omega), vd_dg (by omega), vd_dg (by omega), vd_dg (by omega)]
  congr 1; omega

/-- The text of a date. -/
def txt (y : Int) (m d : Nat) : List UInt8 := if 0 ≤ y then yl y.toNat (mdl m d) else 45 :: yl (-y).toNat (mdl m d)
theorem text_is (y : Int) (m d : Nat) (v : Cal.Valid y m d) (hm : m < 100) (hd : d < 100) : CT (Cal.num y m d) ⟨(txt y m d).toArray⟩ 0 := by
  by_cases c : 0 ≤ y
  · obtain ⟨z, rfl⟩ := Int.eq_ofNat_of_zero_le c
    unfold txt
    rw [if_pos c]
    exact Lib.hid fun w hT => text_pos z m d w hT v hm hd
  · unfold txt
    rw [if_neg c]
    exact Lib.hid fun w hT => text_neg y (-y).toNat m d (by omega) w hT v (by omega) hm hd
theorem txt_read (y : Int) (m d : Nat) (v : Cal.Valid y m d) (hm : m < 100) (hd : d < 100) : readOf (txt y m d) = some (Cal.num y m d) := by
  have y1 := v.y1
  have y2 := v.y2
  unfold txt
  split
  · rw [readOf_pos (by omega), tail_md _ hm hd, Int.toNat_of_nonneg (by omega)]
    unfold onDate; rw [if_pos v]
  · rw [readOf_neg (by omega) (by omega), tail_md _ hm hd, Int.toNat_of_nonneg (by omega), Int.neg_neg]
    unfold onDate; rw [if_pos v]
theorem cr_any (s : List UInt8) : CR ⟨s.toArray⟩ (toldN (readOf s)) (toldE (readOf s)) := Lib.hid fun w hT => read_any ⟨s.toArray⟩ w hT

end Go.Proofs.YthkddellilhhaaaGreatDoor
