/- Pad, Text, Read, Rd in one. -/
import Derived.Test.YtllhcpkpbipjlaaDoorKc
import Derived.Laws.EntriesVeiled
import Derived.Test.YtllhcpkpbipjlaaDoorKb
namespace Go.Proofs.YtllhcpkpbipjlaaDoor
set_option linter.unusedVariables false
set_option linter.unusedSimpArgs false
open Go.ChangeShapes Go.WideShapes Go.ChangeAt Go.RowKit

/-- The tables that are read: the days ahead of a month, the powers of ten. -/
def Tabs (w : World) : Prop := Tab w ∧ Lib.TabIs Tryd.prog w "internal/strconv.uint64pow10" .u64 Lib.pow10Tab

theorem Tab.keep {w w' : World} (h : Tab w) (b : Below w.heap.size w w') : Tab w' := by
  intro i hi
  have hc := h i hi
  have hlt : 0 < w.heap.size := by
    rcases Nat.eq_zero_or_pos w.heap.size with h0 | h0
    · unfold World.cell? at hc
      rw [Array.getElem?_eq_none (by show w.heap.size ≤ 0; omega)] at hc
      simp at hc
    · exact h0
  rw [← hc]
  unfold World.cell?
  rw [b.block 0 hlt]
theorem Tabs.keep {w w' : World} (h : Tabs w) (b : Below w.heap.size w w') : Tabs w' := by
  refine ⟨h.1.keep b, ?_⟩
  have h2 := h.2
  unfold Lib.TabIs World.var? at *
  cases hg : Tryd.prog.globalNamed "internal/strconv.uint64pow10" with
  | none => simp [hg] at h2
  | some g =>
    simp only [hg, Option.bind_some] at h2 ⊢
    have hlt : g < w.heap.size := by
      rcases Nat.lt_or_ge g w.heap.size with h' | h'
      · exact h'
      · rw [Array.getElem?_eq_none h'] at h2; simp at h2
    rw [b.block g hlt]
    exact h2
theorem grow_below (w : World) (k : Nat) (os : Array Obj) : Below w.heap.size w (Sort.grow (w.drewN k) os) :=
  ⟨rfl, rfl, rfl, by show w.heap.size ≤ (w.heap ++ os).size; simp, fun j hj => by show (w.heap ++ os)[j]? = _; rw [Array.getElem?_append_left hj]⟩
theorem drewN_below (w : World) (k : Nat) : Below w.heap.size w (w.drewN k) := ⟨rfl, rfl, rfl, Nat.le_refl _, fun _ _ => rfl⟩

namespace Cal
/-- A digit, as a byte. -/
def dg (n : Nat) : UInt8 := UInt8.ofNat (48 + n)
end Cal
open Cal (dg)
theorem dec3 {n : Nat} (h1 : 100 ≤ n) (h2 : n < 1000) : Lib.decDigits n = [dg (n / 100), dg (n / 10 % 10), dg (n % 10)] := by
  rw [Lib.decDigits, dif_neg (by omega), Lib.decDigits_two (by omega) (by omega), Nat.div_div_eq_div_mul]
  rfl
theorem dec4 {n : Nat} (h1 : 1000 ≤ n) (h2 : n < 10000) : Lib.decDigits n = [dg (n / 1000), dg (n / 100 % 10), dg (n / 10 % 10), dg (n % 10)] := by
  rw [Lib.decDigits, dif_neg (by omega), dec3 (by omega) (by omega), Nat.div_div_eq_div_mul, Nat.div_div_eq_div_mul]
  rfl
theorem dg0 : dg 0 = 48 := rfl

open Cal (dg)
theorem cell_keep {w w' : World} {a : Addr} {v : Value} (h : w.cell? a = some v) (b : Below w.heap.size w w') : w'.cell? a = some v := by
  have hlt : a.block < w.heap.size := by
    rcases Nat.lt_or_ge a.block w.heap.size with h' | h'
    · exact h'
    · unfold World.cell? at h
      rw [Array.getElem?_eq_none h'] at h; simp at h
  rw [← h]
  unfold World.cell?
  rw [b.block a.block hlt]

namespace Cal
instance (y m d : Int) : Decidable (Valid y m d) :=
  decidable_of_iff (-9999 ≤ y ∧ y ≤ 9999 ∧ 1 ≤ d ∧ d ≤ len y m) ⟨fun ⟨a, b, c, e⟩ => ⟨a, b, c, e⟩, fun h => ⟨h.y1, h.y2, h.d1, h.d2⟩⟩
end Cal
instance (a b c d : UInt8) : Decidable (fitY a b c d) := by unfold fitY; infer_instance
instance (a b c d : UInt8) : Decidable (fitN a b c d) := by unfold fitN; infer_instance
instance (a b c d f g : UInt8) : Decidable (fitD a b c d f g) := by unfold fitD; infer_instance
instance (a b c d f g : UInt8) : Decidable (fitW a b c d f g) := by unfold fitW; infer_instance

/-- The day of a year, a month and a day, if there is one. -/
def onDate (y m d : Int) : Option Int := if Cal.Valid y m d then some (Cal.num y m d) else none
def onNth (y k : Int) : Option Int := if -9999 ≤ y ∧ y ≤ 9999 ∧ 1 ≤ k ∧ k ≤ 365 + Cal.lp y then some (Cal.start y + (k - 1)) else none
def onWeek (y k d : Int) : Option Int :=
  if 1 ≤ k ∧ k ≤ Cal.weeks y ∧ 1 ≤ d ∧ d ≤ 7 then
    (if -4371587 ≤ Cal.op y + (k - 1) * 7 + (d - 1) ∧ Cal.op y + (k - 1) * 7 + (d - 1) < 2932897 then some (Cal.op y + (k - 1) * 7 + (d - 1)) else none) else none
/-- What is told: a number and no error, or 0 and ErrDate. -/
def told : Option Int → Ending
  | some n => .returned (.tuple #[.int .i64 n, .int .i64 0])
  | none => .returned (.tuple #[.int .i64 0, .int .i64 30])
def toldN (o : Option Int) : Int := o.getD 0
def toldE (o : Option Int) : Int := if o.isSome then 0 else 30
theorem told_eq (o : Option Int) : told o = .returned (.tuple #[.int .i64 (toldN o), .int .i64 (toldE o)]) := by cases o <;> rfl

/-- A byte, as a digit. -/
def vd (c : UInt8) : Int := (c.toNat : Int) - 48
def valY (a b c d : UInt8) : Int := ((vd a * 10 + vd b) * 10 + vd c) * 10 + vd d
def tailOf (y : Int) : List UInt8 → Option Int
  | [a, b, c, d, f, g] => if fitD a b c d f g then onDate y (vd b * 10 + vd c) (vd f * 10 + vd g) else if fitW a b c d f g then onWeek y (vd c * 10 + vd d) (vd g) else none
  | [a, b, c, d] => if fitN a b c d then onNth y ((vd b * 10 + vd c) * 10 + vd d) else none
  | _ => none
def restOf (neg : Bool) : List UInt8 → Option Int
  | a :: b :: c :: d :: t => if fitY a b c d then (if neg = true ∧ valY a b c d = 0 then none else tailOf (if neg = true then -(valY a b c d) else valY a b c d) t) else none
  | _ => none
def readOf (s : List UInt8) : Option Int := restOf (Lib.hasPrefix s [45]) (Lib.trimPrefix s [45])

theorem extr (a b c d : UInt8) (t : List UInt8) : (ByteArray.mk (a :: b :: c :: d :: t).toArray).extract 0 4 = ⟨#[a, b, c, d]⟩ := by
  apply ByteArray.ext
  simp [ByteArray.data_extract]
theorem extr4 (a b c d : UInt8) (t : List UInt8) : (ByteArray.mk (a :: b :: c :: d :: t).toArray).extract 4 (ByteArray.mk (a :: b :: c :: d :: t).toArray).size = ⟨t.toArray⟩ := by
  apply ByteArray.ext
  simp [ByteArray.data_extract, ByteArray.size]

theorem valY_bd {a b c d : UInt8} (h : fitY a b c d) : 0 ≤ valY a b c d ∧ valY a b c d ≤ 9999 := by
  unfold fitY at h
  unfold valY vd
  omega

end Go.Proofs.YtllhcpkpbipjlaaDoor
