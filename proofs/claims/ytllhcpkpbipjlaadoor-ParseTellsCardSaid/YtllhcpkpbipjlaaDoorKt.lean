/- BackL in one. -/
import Derived.Test.YtllhcpkpbipjlaaDoorKe
import Derived.Test.YtllhcpkpbipjlaaDoorKq
namespace Go.Proofs.YtllhcpkpbipjlaaDoor
set_option linter.unusedVariables false
set_option linter.unusedSimpArgs false
open Go.ChangeShapes Go.WideShapes Go.ChangeAt Go.RowKit
open Cal (dg)

theorem dg_nat {n : Nat} (h : n < 10) : (dg n).toNat = 48 + n := by
  unfold dg
  rw [UInt8.toNat_ofNat']
  omega
theorem vd_dg {n : Nat} (h : n < 10) : vd (dg n) = n := by unfold vd; rw [dg_nat h]; omega
theorem dg_ne {n : Nat} (h : n < 10) : dg n ≠ 45 := fun e => by
  have := dg_nat h
  rw [e] at this
  simp at this
  omega
theorem pre_dg {n : Nat} (h : n < 10) (t : List UInt8) : Lib.hasPrefix (dg n :: t) [45] = false := by
  unfold Lib.hasPrefix
  simp [List.isPrefixOf]
  exact fun e => dg_ne h e.symm
theorem pre_45 (t : List UInt8) : Lib.hasPrefix (45 :: t) [45] = true := by
  unfold Lib.hasPrefix
  simp [List.isPrefixOf]
theorem trim_dg {n : Nat} (h : n < 10) (t : List UInt8) : Lib.trimPrefix (dg n :: t) [45] = dg n :: t := by
  unfold Lib.trimPrefix
  rw [pre_dg h]; rfl
theorem trim_45 (t : List UInt8) : Lib.trimPrefix (45 :: t) [45] = t := by
  unfold Lib.trimPrefix
  rw [pre_45]; rfl

/-- The digits of a year. -/
def yl (y : Nat) (t : List UInt8) : List UInt8 := dg (y / 1000) :: dg (y / 100 % 10) :: dg (y / 10 % 10) :: dg (y % 10) :: t
theorem yl_fit {y : Nat} (h : y < 10000) : fitY (dg (y / 1000)) (dg (y / 100 % 10)) (dg (y / 10 % 10)) (dg (y % 10)) := by
  unfold fitY
  rw [dg_nat (by omega), dg_nat (by omega), dg_nat (by omega), dg_nat (by omega)]
  omega
theorem yl_val {y : Nat} (h : y < 10000) : valY (dg (y / 1000)) (dg (y / 100 % 10)) (dg (y / 10 % 10)) (dg (y % 10)) = y := by
  unfold valY
  rw [vd_dg (by omega), vd_dg (by omega), vd_dg (by omega), vd_dg (by omega)]
  omega
theorem readOf_pos {y : Nat} (h : y < 10000) (t : List UInt8) : readOf (yl y t) = tailOf y t := by
  unfold readOf yl
  rw [pre_dg (by omega), trim_dg (by omega)]
  simp only [restOf]
  rw [if_pos (yl_fit h), yl_val h]
  simp
theorem readOf_neg {y : Nat} (h : y < 10000) (h0 : 1 ≤ y) (t : List UInt8) : readOf (45 :: yl y t) = tailOf (-(y : Int)) t := by
  unfold readOf yl
  rw [pre_45, trim_45]
  simp only [restOf]
  rw [if_pos (yl_fit h), yl_val h]
  rw [if_neg (by omega)]
  simp
/-- Behind the year: month and day; the day of the year; week and weekday. -/
def mdl (m d : Nat) : List UInt8 := [45, dg (m / 10), dg (m % 10), 45, dg (d / 10), dg (d % 10)]
def ndl (n : Nat) : List UInt8 := [45, dg (n / 100), dg (n / 10 % 10), dg (n % 10)]
def wdl (k d : Nat) : List UInt8 := [45, 87, dg (k / 10), dg (k % 10), 45, dg d]
theorem tail_md (y : Int) {m d : Nat} (hm : m < 100) (hd : d < 100) : tailOf y (mdl m d) = onDate y m d := by
  unfold mdl
  simp only [tailOf]
  rw [if_pos (by unfold fitD; rw [dg_nat (by omega), dg_nat (by omega), dg_nat (by omega), dg_nat (by omega)]; simp; omega), vd_dg (by omega), vd_dg (by omega), vd_dg (by omega), vd_dg (by omega)]
  congr 1 <;> omega
theorem tail_nd (y : Int) {n : Nat} (hn : n < 1000) : tailOf y (ndl n) = onNth y n := by
  unfold ndl
  simp only [tailOf]
  rw [if_pos (by unfold fitN; rw [dg_nat (by omega), dg_nat (by omega), dg_nat (by omega)]; simp; omega), vd_dg (by omega), vd_dg (by omega), vd_dg (by omega)]
  congr 1; omega
theorem tail_wd (y : Int) {k d : Nat} (hk : k < 100) (hd : d < 10) : tailOf y (wdl k d) = onWeek y k d := by
  unfold wdl
  simp only [tailOf]
  rw [if_neg (by unfold fitD; simp), if_pos (by unfold fitW; rw [dg_nat (by omega), dg_nat (by omega), dg_nat (by omega)]; simp; omega), vd_dg (by omega), vd_dg (by omega), vd_dg (by omega)]
  congr 1; omega

/-- The text of a date. -/
def txt (y : Int) (m d : Nat) : List UInt8 := if 0 ≤ y then yl y.toNat (mdl m d) else 45 :: yl (-y).toNat (mdl m d)
theorem txt_read (y : Int) (m d : Nat) (v : Cal.Valid y m d) (hm : m < 100) (hd : d < 100) : readOf (txt y m d) = some (Cal.num y m d) := by
  have y1 := v.y1
  have y2 := v.y2
  unfold txt
  split
  · rw [readOf_pos (by omega), tail_md _ hm hd, Int.toNat_of_nonneg (by omega)]
    unfold onDate; rw [if_pos v]
  · rw [readOf_neg (by omega) (by omega), tail_md _ hm hd, Int.toNat_of_nonneg (by omega), Int.neg_neg]
    unfold onDate; rw [if_pos v]
end Go.Proofs.YtllhcpkpbipjlaaDoor
