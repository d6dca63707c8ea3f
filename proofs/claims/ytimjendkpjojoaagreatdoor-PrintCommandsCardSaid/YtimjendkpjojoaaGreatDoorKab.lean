/- ReadC, Rd in one. -/
import Derived.Test.YtimjendkpjojoaaGreatDoorKz
import Derived.Test.YtimjendkpjojoaaGreatDoorKaa
import Derived.Test.YtimjendkpjojoaaGreatDoorKv
namespace Go.Proofs.YtimjendkpjojoaaGreatDoor
set_option linter.unusedVariables false
set_option linter.unusedSimpArgs false
open Go.ChangeShapes Go.WideShapes Go.ChangeAt Go.RowKit

theorem numsN_yes (a b c d : UInt8) (h : fitN a b c d) (w : World) :
    Calls Tryz.prog 77 #[.string ⟨#[a, b, c, d]⟩, .string ⟨#[45, 48, 48, 48]⟩] w fun e w' => e = .returned (.tuple #[.int .i64 ((((b.toNat : Int) - 48) * 10 + ((c.toNat : Int) - 48)) * 10 + ((d.toNat : Int) - 48)), .int .i64 ((((b.toNat : Int) - 48) * 10 + ((c.toNat : Int) - 48)) * 10 + ((d.toNat : Int) - 48)), .bool true]) ∧ Below w.heap.size w w' :=
  (numsN a b c d w).mono fun e w' ⟨h1, nq, hw⟩ => ⟨h1.elim (fun x => x.2) (fun x => absurd h x.1), hw ▸ drewN_below w nq⟩
theorem numsN_no (a b c d : UInt8) (h : ¬ fitN a b c d) (w : World) :
    Calls Tryz.prog 77 #[.string ⟨#[a, b, c, d]⟩, .string ⟨#[45, 48, 48, 48]⟩] w fun e w' => e = .returned (.tuple #[.int .i64 0, .int .i64 0, .bool false]) ∧ Below w.heap.size w w' :=
  (numsN a b c d w).mono fun e w' ⟨h1, nq, hw⟩ => ⟨h1.elim (fun x => absurd x.1 h) (fun x => x.2), hw ▸ drewN_below w nq⟩
theorem numslN_no (s : ByteArray) (h : s.size ≠ 4) (w : World) :
    Calls Tryz.prog 77 #[.string s, .string ⟨#[45, 48, 48, 48]⟩] w fun e w' => e = .returned (.tuple #[.int .i64 0, .int .i64 0, .bool false]) ∧ Below w.heap.size w w' :=
  (numslN s h w).mono fun e w' ⟨h1, hw⟩ => ⟨h1, hw ▸ Below.refl _ _⟩

theorem numsY_yes (a b c d : UInt8) (h : fitY a b c d) (w : World) :
    Calls Tryz.prog 77 #[.string ⟨#[a, b, c, d]⟩, .string ⟨#[48, 48, 48, 48]⟩] w fun e w' => e = .returned (.tuple #[.int .i64 (((((a.toNat : Int) - 48) * 10 + ((b.toNat : Int) - 48)) * 10 + ((c.toNat : Int) - 48)) * 10 + ((d.toNat : Int) - 48)), .int .i64 (((((a.toNat : Int) - 48) * 10 + ((b.toNat : Int) - 48)) * 10 + ((c.toNat : Int) - 48)) * 10 + ((d.toNat : Int) - 48)), .bool true]) ∧ Below w.heap.size w w' :=
  (numsY a b c d w).mono fun e w' ⟨h1, nq, hw⟩ => ⟨h1.elim (fun x => x.2) (fun x => absurd h x.1), hw ▸ drewN_below w nq⟩
theorem numsY_no (a b c d : UInt8) (h : ¬ fitY a b c d) (w : World) :
    Calls Tryz.prog 77 #[.string ⟨#[a, b, c, d]⟩, .string ⟨#[48, 48, 48, 48]⟩] w fun e w' => e = .returned (.tuple #[.int .i64 0, .int .i64 0, .bool false]) ∧ Below w.heap.size w w' :=
  (numsY a b c d w).mono fun e w' ⟨h1, nq, hw⟩ => ⟨h1.elim (fun x => absurd x.1 h) (fun x => x.2), hw ▸ drewN_below w nq⟩
theorem numslY_no (s : ByteArray) (h : s.size ≠ 4) (w : World) :
    Calls Tryz.prog 77 #[.string s, .string ⟨#[48, 48, 48, 48]⟩] w fun e w' => e = .returned (.tuple #[.int .i64 0, .int .i64 0, .bool false]) ∧ Below w.heap.size w w' :=
  (numslY s h w).mono fun e w' ⟨h1, hw⟩ => ⟨h1, hw ▸ Below.refl _ _⟩

theorem numsD_yes (a b c d f g : UInt8) (h : fitD a b c d f g) (w : World) :
    Calls Tryz.prog 77 #[.string ⟨#[a, b, c, d, f, g]⟩, .string ⟨#[45, 48, 48, 45, 48, 48]⟩] w fun e w' => e = .returned (.tuple #[.int .i64 (((b.toNat : Int) - 48) * 10 + ((c.toNat : Int) - 48)), .int .i64 (((f.toNat : Int) - 48) * 10 + ((g.toNat : Int) - 48)), .bool true]) ∧ Below w.heap.size w w' :=
  (numsD a b c d f g w).mono fun e w' ⟨h1, nq, hw⟩ => ⟨h1.elim (fun x => x.2) (fun x => absurd h x.1), hw ▸ drewN_below w nq⟩
theorem numsD_no (a b c d f g : UInt8) (h : ¬ fitD a b c d f g) (w : World) :
    Calls Tryz.prog 77 #[.string ⟨#[a, b, c, d, f, g]⟩, .string ⟨#[45, 48, 48, 45, 48, 48]⟩] w fun e w' => e = .returned (.tuple #[.int .i64 0, .int .i64 0, .bool false]) ∧ Below w.heap.size w w' :=
  (numsD a b c d f g w).mono fun e w' ⟨h1, nq, hw⟩ => ⟨h1.elim (fun x => absurd x.1 h) (fun x => x.2), hw ▸ drewN_below w nq⟩
theorem numslD_no (s : ByteArray) (h : s.size ≠ 6) (w : World) :
    Calls Tryz.prog 77 #[.string s, .string ⟨#[45, 48, 48, 45, 48, 48]⟩] w fun e w' => e = .returned (.tuple #[.int .i64 0, .int .i64 0, .bool false]) ∧ Below w.heap.size w w' :=
  (numslD s h w).mono fun e w' ⟨h1, hw⟩ => ⟨h1, hw ▸ Below.refl _ _⟩

theorem numsW_yes (a b c d f g : UInt8) (h : fitW a b c d f g) (w : World) :
    Calls Tryz.prog 77 #[.string ⟨#[a, b, c, d, f, g]⟩, .string ⟨#[45, 87, 48, 48, 45, 48]⟩] w fun e w' => e = .returned (.tuple #[.int .i64 (((c.toNat : Int) - 48) * 10 + ((d.toNat : Int) - 48)), .int .i64 ((g.toNat : Int) - 48), .bool true]) ∧ Below w.heap.size w w' :=
  (numsW a b c d f g w).mono fun e w' ⟨h1, nq, hw⟩ => ⟨h1.elim (fun x => x.2) (fun x => absurd h x.1), hw ▸ drewN_below w nq⟩
theorem numsW_no (a b c d f g : UInt8) (h : ¬ fitW a b c d f g) (w : World) :
    Calls Tryz.prog 77 #[.string ⟨#[a, b, c, d, f, g]⟩, .string ⟨#[45, 87, 48, 48, 45, 48]⟩] w fun e w' => e = .returned (.tuple #[.int .i64 0, .int .i64 0, .bool false]) ∧ Below w.heap.size w w' :=
  (numsW a b c d f g w).mono fun e w' ⟨h1, nq, hw⟩ => ⟨h1.elim (fun x => absurd x.1 h) (fun x => x.2), hw ▸ drewN_below w nq⟩
theorem numslW_no (s : ByteArray) (h : s.size ≠ 6) (w : World) :
    Calls Tryz.prog 77 #[.string s, .string ⟨#[45, 87, 48, 48, 45, 48]⟩] w fun e w' => e = .returned (.tuple #[.int .i64 0, .int .i64 0, .bool false]) ∧ Below w.heap.size w w' :=
  (numslW s h w).mono fun e w' ⟨h1, hw⟩ => ⟨h1, hw ▸ Below.refl _ _⟩

theorem read_c1 (w : World) (hT : Tab w) :
    Calls Tryz.prog 66 #[.string ⟨#[50, 48, 48, 49, 45, 51, 54, 54]⟩] w fun e' w' => e' = .returned (.tuple #[.int .i64 0, .int .i64 30]) ∧ Below w.heap.size w w' :=
  readP2 ⟨#[50, 48, 48, 49, 45, 51, 54, 54]⟩ ⟨#[50, 48, 48, 49, 45, 51, 54, 54]⟩ w hT rfl rfl (by decide) 2001 2001 (Lib.hid fun w => by rw [show (ByteArray.mk #[50, 48, 48, 49, 45, 51, 54, 54]).extract 0 4 = ⟨#[50, 48, 48, 49]⟩ from rfl]; exact numsY_yes 50 48 48 49 (by unfold fitY; decide) w) (by decide) (by decide) 366 366 (Lib.hid fun w => by rw [show (ByteArray.mk #[50, 48, 48, 49, 45, 51, 54, 54]).extract 4 (ByteArray.mk #[50, 48, 48, 49, 45, 51, 54, 54]).size = ⟨#[45, 51, 54, 54]⟩ from rfl]; exact numslD_no _ (by decide) w) (Lib.hid fun w => by rw [show (ByteArray.mk #[50, 48, 48, 49, 45, 51, 54, 54]).extract 4 (ByteArray.mk #[50, 48, 48, 49, 45, 51, 54, 54]).size = ⟨#[45, 51, 54, 54]⟩ from rfl]; exact numslW_no _ (by decide) w) (Lib.hid fun w => by rw [show (ByteArray.mk #[50, 48, 48, 49, 45, 51, 54, 54]).extract 4 (ByteArray.mk #[50, 48, 48, 49, 45, 51, 54, 54]).size = ⟨#[45, 51, 54, 54]⟩ from rfl]; exact numsN_yes 45 51 54 54 (by unfold fitN; decide) w) 0 30 (Lib.hid fun w hT => form3_ok 2001 366 366 0 30 w (Lib.hid fun w _ => ofnth_no 2001 366 w (by decide)) hT)

theorem read_c2 (w : World) (hT : Tab w) :
    Calls Tryz.prog 66 #[.string ⟨#[50, 48, 48, 48, 45, 50, 45, 50, 57]⟩] w fun e' w' => e' = .returned (.tuple #[.int .i64 0, .int .i64 30]) ∧ Below w.heap.size w w' :=
  readP3 ⟨#[50, 48, 48, 48, 45, 50, 45, 50, 57]⟩ ⟨#[50, 48, 48, 48, 45, 50, 45, 50, 57]⟩ w hT rfl rfl (by decide) 2000 2000 (Lib.hid fun w => by rw [show (ByteArray.mk #[50, 48, 48, 48, 45, 50, 45, 50, 57]).extract 0 4 = ⟨#[50, 48, 48, 48]⟩ from rfl]; exact numsY_yes 50 48 48 48 (by unfold fitY; decide) w) (by decide) (by decide) (Lib.hid fun w => by rw [show (ByteArray.mk #[50, 48, 48, 48, 45, 50, 45, 50, 57]).extract 4 (ByteArray.mk #[50, 48, 48, 48, 45, 50, 45, 50, 57]).size = ⟨#[45, 50, 45, 50, 57]⟩ from rfl]; exact numslD_no _ (by decide) w) (Lib.hid fun w => by rw [show (ByteArray.mk #[50, 48, 48, 48, 45, 50, 45, 50, 57]).extract 4 (ByteArray.mk #[50, 48, 48, 48, 45, 50, 45, 50, 57]).size = ⟨#[45, 50, 45, 50, 57]⟩ from rfl]; exact numslW_no _ (by decide) w) (Lib.hid fun w => by rw [show (ByteArray.mk #[50, 48, 48, 48, 45, 50, 45, 50, 57]).extract 4 (ByteArray.mk #[50, 48, 48, 48, 45, 50, 45, 50, 57]).size = ⟨#[45, 50, 45, 50, 57]⟩ from rfl]; exact numslN_no _ (by decide) w)

theorem read_c4 (w : World) (hT : Tab w) :
    Calls Tryz.prog 66 #[.string ⟨#[50, 48, 48, 52, 45, 87, 53, 51, 45, 54]⟩] w fun e' w' => e' = .returned (.tuple #[.int .i64 12784, .int .i64 0]) ∧ Below w.heap.size w w' :=
  readP1 ⟨#[50, 48, 48, 52, 45, 87, 53, 51, 45, 54]⟩ ⟨#[50, 48, 48, 52, 45, 87, 53, 51, 45, 54]⟩ w hT rfl rfl (by decide) 2004 2004 (Lib.hid fun w => by rw [show (ByteArray.mk #[50, 48, 48, 52, 45, 87, 53, 51, 45, 54]).extract 0 4 = ⟨#[50, 48, 48, 52]⟩ from rfl]; exact numsY_yes 50 48 48 52 (by unfold fitY; decide) w) (by decide) (by decide) 53 6 (Lib.hid fun w => by rw [show (ByteArray.mk #[50, 48, 48, 52, 45, 87, 53, 51, 45, 54]).extract 4 (ByteArray.mk #[50, 48, 48, 52, 45, 87, 53, 51, 45, 54]).size = ⟨#[45, 87, 53, 51, 45, 54]⟩ from rfl]; exact numsD_no 45 87 53 51 45 54 (by unfold fitD; decide) w) (Lib.hid fun w => by rw [show (ByteArray.mk #[50, 48, 48, 52, 45, 87, 53, 51, 45, 54]).extract 4 (ByteArray.mk #[50, 48, 48, 52, 45, 87, 53, 51, 45, 54]).size = ⟨#[45, 87, 53, 51, 45, 54]⟩ from rfl]; exact numsW_yes 45 87 53 51 45 54 (by unfold fitW; decide) w) 12784 0 (Lib.hid fun w hT => ofweek_ok 2004 53 6 w hT (by decide) (by decide) (by decide) (by decide) (by decide) (by decide))

theorem read_c5 (w : World) (hT : Tab w) :
    Calls Tryz.prog 66 #[.string ⟨#[50, 48, 48, 48, 45, 51, 54, 54]⟩] w fun e' w' => e' = .returned (.tuple #[.int .i64 11322, .int .i64 0]) ∧ Below w.heap.size w w' :=
  readP2 ⟨#[50, 48, 48, 48, 45, 51, 54, 54]⟩ ⟨#[50, 48, 48, 48, 45, 51, 54, 54]⟩ w hT rfl rfl (by decide) 2000 2000 (Lib.hid fun w => by rw [show (ByteArray.mk #[50, 48, 48, 48, 45, 51, 54, 54]).extract 0 4 = ⟨#[50, 48, 48, 48]⟩ from rfl]; exact numsY_yes 50 48 48 48 (by unfold fitY; decide) w) (by decide) (by decide) 366 366 (Lib.hid fun w => by rw [show (ByteArray.mk #[50, 48, 48, 48, 45, 51, 54, 54]).extract 4 (ByteArray.mk #[50, 48, 48, 48, 45, 51, 54, 54]).size = ⟨#[45, 51, 54, 54]⟩ from rfl]; exact numslD_no _ (by decide) w) (Lib.hid fun w => by rw [show (ByteArray.mk #[50, 48, 48, 48, 45, 51, 54, 54]).extract 4 (ByteArray.mk #[50, 48, 48, 48, 45, 51, 54, 54]).size = ⟨#[45, 51, 54, 54]⟩ from rfl]; exact numslW_no _ (by decide) w) (Lib.hid fun w => by rw [show (ByteArray.mk #[50, 48, 48, 48, 45, 51, 54, 54]).extract 4 (ByteArray.mk #[50, 48, 48, 48, 45, 51, 54, 54]).size = ⟨#[45, 51, 54, 54]⟩ from rfl]; exact numsN_yes 45 51 54 54 (by unfold fitN; decide) w) 11322 0 (Lib.hid fun w hT => form3_ok 2000 366 366 11322 0 w (Lib.hid fun w hT => ofnth_ok 2000 366 w hT (by decide) (by decide) (by decide) (by decide)) hT)

/-- A year that is -0000. -/
theorem readZ (s : ByteArray) (rest : ByteArray) (w : World) (h1 : (⟨(Lib.trimPrefix s.data.toList [45]).toArray⟩ : ByteArray) = rest) (h2 : Lib.hasPrefix s.data.toList [45] = true) (h3 : 4 ≤ rest.size)
    (a2 : Int) (hY : Hid (∀ w, Calls Tryz.prog 77 #[.string (rest.extract 0 4), .string ⟨#[48, 48, 48, 48]⟩] w fun e w' => e = .returned (.tuple #[.int .i64 0, .int .i64 a2, .bool true]) ∧ Below w.heap.size w w')) :
    Calls Tryz.prog 66 #[.string s] w fun e' w' => e' = .returned (.tuple #[.int .i64 0, .int .i64 30]) ∧ Below w.heap.size w w' := by
  have C := fun w => Tryz.strings_CutPrefix s ⟨#[45]⟩ w
  rw [show (ByteArray.mk #[45]).data.toList = [45] from rfl, h1, h2] at C
  have C := Lib.hid C
  have h4 : 4 ≤ (rest.size : Int) := by omega
  clear h1 h2 h3
  go_enter Tryz.func66, Tryz.ntmps66
  go_wp2_with (first
    | (go_at_call 76; (with_reducible refine (C.out _).mono ?_); rintro e w' ⟨rfl, rfl⟩)
    | (go_at_call 77; (with_reducible refine (hY.out _).mono ?_); rintro e w1 ⟨rfl, b1⟩))
  go_returns
  exact ⟨rfl, b1⟩
/-- A year that is no digits. -/
theorem readX (s : ByteArray) (rest : ByteArray) (b : Bool) (w : World) (h1 : (⟨(Lib.trimPrefix s.data.toList [45]).toArray⟩ : ByteArray) = rest) (h2 : Lib.hasPrefix s.data.toList [45] = b) (h3 : 4 ≤ rest.size)
    (hY : Hid (∀ w, Calls Tryz.prog 77 #[.string (rest.extract 0 4), .string ⟨#[48, 48, 48, 48]⟩] w fun e w' => e = .returned (.tuple #[.int .i64 0, .int .i64 0, .bool false]) ∧ Below w.heap.size w w')) :
    Calls Tryz.prog 66 #[.string s] w fun e' w' => e' = .returned (.tuple #[.int .i64 0, .int .i64 30]) ∧ Below w.heap.size w w' := by
  have C := fun w => Tryz.strings_CutPrefix s ⟨#[45]⟩ w
  rw [show (ByteArray.mk #[45]).data.toList = [45] from rfl, h1, h2] at C
  have C := Lib.hid C
  have h4 : 4 ≤ (rest.size : Int) := by omega
  clear h1 h2 h3
  go_enter Tryz.func66, Tryz.ntmps66
  go_wp2_with (first
    | (go_at_call 76; (with_reducible refine (C.out _).mono ?_); rintro e w' ⟨rfl, rfl⟩)
    | (go_at_call 77; (with_reducible refine (hY.out _).mono ?_); rintro e w1 ⟨rfl, b1⟩))
  go_returns
  exact ⟨rfl, b1⟩

theorem read_c3 (w : World) :
    Calls Tryz.prog 66 #[.string ⟨#[45, 48, 48, 48, 48, 45, 48, 49, 45, 48, 49]⟩] w fun e' w' => e' = .returned (.tuple #[.int .i64 0, .int .i64 30]) ∧ Below w.heap.size w w' :=
  readZ ⟨#[45, 48, 48, 48, 48, 45, 48, 49, 45, 48, 49]⟩ ⟨#[48, 48, 48, 48, 45, 48, 49, 45, 48, 49]⟩ w rfl rfl (by decide) 0 (Lib.hid fun w => by rw [show (ByteArray.mk #[48, 48, 48, 48, 45, 48, 49, 45, 48, 49]).extract 0 4 = ⟨#[48, 48, 48, 48]⟩ from rfl]; exact numsY_yes 48 48 48 48 (by unfold fitY; decide) w)


namespace Cal
instance (y m d : Int) : Decidable (Valid y m d) :=
  decidable_of_iff (-9999 ≤ y ∧ y ≤ 9999 ∧ 1 ≤ d ∧ d ≤ len y m) ⟨fun ⟨a, b, c, e⟩ => ⟨a, b, c, e⟩, fun h => ⟨h.y1, h.y2, h.d1, h.d2⟩⟩
end Cal
instance (a b c d : UInt8) : Decidable (fitY a b c d) := by unfold fitY; infer_instance
instance (a b c d : UInt8) : Decidable (fitN a b c d) := by unfold fitN; infer_instance
instance (a b c d f g : UInt8) : Decidable (fitD a b c d f g) := by unfold fitD; infer_instance
instance (a b c d f g : UInt8) : Decidable (fitW a b c d f g) := by unfold fitW; infer_instance

/-- The day of a year, a month and a day, if there is one. -/
def onDate (y m d : Int) : Option Int := if Cal.Valid y m d then some (Cal.num y m d) else none
def onNth (y k : Int) : Option Int := if -9999 ≤ y ∧ y ≤ 9999 ∧ 1 ≤ k ∧ k ≤ 365 + Cal.lp y then some (Cal.start y + (k - 1)) else none
def onWeek (y k d : Int) : Option Int :=
  if 1 ≤ k ∧ k ≤ Cal.weeks y ∧ 1 ≤ d ∧ d ≤ 7 then
    (if -4371587 ≤ Cal.op y + (k - 1) * 7 + (d - 1) ∧ Cal.op y + (k - 1) * 7 + (d - 1) < 2932897 then some (Cal.op y + (k - 1) * 7 + (d - 1)) else none) else none
/-- What is told: a number and no error, or 0 and ErrDate. -/
def told : Option Int → Ending
  | some n => .returned (.tuple #[.int .i64 n, .int .i64 0])
  | none => .returned (.tuple #[.int .i64 0, .int .i64 30])
def toldN (o : Option Int) : Int := o.getD 0
def toldE (o : Option Int) : Int := if o.isSome then 0 else 30
theorem told_eq (o : Option Int) : told o = .returned (.tuple #[.int .i64 (toldN o), .int .i64 (toldE o)]) := by cases o <;> rfl

theorem days_told (y m d : Int) (w : World) (hT : Tab w) : Calls Tryz.prog 91 #[.int .i64 y, .int .i64 m, .int .i64 d] w fun e w' => e = .returned (.tuple #[.int .i64 (toldN (onDate y m d)), .int .i64 (toldE (onDate y m d))]) ∧ w = w' := by
  unfold onDate
  split
  · rename_i v
    exact days_valid y m d w hT v
  · rename_i v
    exact days_not y m d w hT v
theorem ofnth_told (y k : Int) (w : World) (hT : Tab w) : Calls Tryz.prog 94 #[.int .i64 y, .int .i64 k] w fun e w' => e = .returned (.tuple #[.int .i64 (toldN (onNth y k)), .int .i64 (toldE (onNth y k))]) ∧ w = w' := by
  unfold onNth
  split
  · rename_i v
    exact ofnth_ok y k w hT v.1 v.2.1 v.2.2.1 v.2.2.2
  · rename_i v
    exact ofnth_no y k w v
theorem ofweek_told (y k d : Int) (w : World) (hT : Tab w) : Calls Tryz.prog 92 #[.int .i64 y, .int .i64 k, .int .i64 d] w fun e w' => e = .returned (.tuple #[.int .i64 (toldN (onWeek y k d)), .int .i64 (toldE (onWeek y k d))]) ∧ w = w' := by
  unfold onWeek
  split
  · rename_i v
    split
    · rename_i r
      exact ofweek_ok y k d w hT v.1 v.2.1 v.2.2.1 v.2.2.2 r.1 r.2
    · rename_i r
      exact ofweek_out y k d w hT v.1 v.2.1 v.2.2.1 v.2.2.2 r
  · rename_i v
    exact ofweek_no y k d w hT v

/-- A byte, as a digit. -/
def vd (c : UInt8) : Int := (c.toNat : Int) - 48
def valY (a b c d : UInt8) : Int := ((vd a * 10 + vd b) * 10 + vd c) * 10 + vd d
def tailOf (y : Int) : List UInt8 → Option Int
  | [a, b, c, d, f, g] => if fitD a b c d f g then onDate y (vd b * 10 + vd c) (vd f * 10 + vd g) else if fitW a b c d f g then onWeek y (vd c * 10 + vd d) (vd g) else none
  | [a, b, c, d] => if fitN a b c d then onNth y ((vd b * 10 + vd c) * 10 + vd d) else none
  | _ => none
def restOf (neg : Bool) : List UInt8 → Option Int
  | a :: b :: c :: d :: t => if fitY a b c d then (if neg = true ∧ valY a b c d = 0 then none else tailOf (if neg = true then -(valY a b c d) else valY a b c d) t) else none
  | _ => none
def readOf (s : List UInt8) : Option Int := restOf (Lib.hasPrefix s [45]) (Lib.trimPrefix s [45])

theorem extr (a b c d : UInt8) (t : List UInt8) : (ByteArray.mk (a :: b :: c :: d :: t).toArray).extract 0 4 = ⟨#[a, b, c, d]⟩ := by
  apply ByteArray.ext
  simp [ByteArray.data_extract]
theorem extr4 (a b c d : UInt8) (t : List UInt8) : (ByteArray.mk (a :: b :: c :: d :: t).toArray).extract 4 (ByteArray.mk (a :: b :: c :: d :: t).toArray).size = ⟨t.toArray⟩ := by
  apply ByteArray.ext
  simp [ByteArray.data_extract, ByteArray.size]

/-- The ways in which a text's tail fits the patterns. -/
theorem tail_ways (y : Int) (t : List UInt8) :
    (∃ p q : Int, Hid (∀ w, Calls Tryz.prog 77 #[.string ⟨t.toArray⟩, .string ⟨#[45, 48, 48, 45, 48, 48]⟩] w fun e w' => e = .returned (.tuple #[.int .i64 p, .int .i64 q, .bool true]) ∧ Below w.heap.size w w') ∧ tailOf y t = onDate y p q) ∨
    (Hid (∀ w, Calls Tryz.prog 77 #[.string ⟨t.toArray⟩, .string ⟨#[45, 48, 48, 45, 48, 48]⟩] w fun e w' => e = .returned (.tuple #[.int .i64 0, .int .i64 0, .bool false]) ∧ Below w.heap.size w w') ∧
     ((∃ p q : Int, Hid (∀ w, Calls Tryz.prog 77 #[.string ⟨t.toArray⟩, .string ⟨#[45, 87, 48, 48, 45, 48]⟩] w fun e w' => e = .returned (.tuple #[.int .i64 p, .int .i64 q, .bool true]) ∧ Below w.heap.size w w') ∧ tailOf y t = onWeek y p q) ∨
      (Hid (∀ w, Calls Tryz.prog 77 #[.string ⟨t.toArray⟩, .string ⟨#[45, 87, 48, 48, 45, 48]⟩] w fun e w' => e = .returned (.tuple #[.int .i64 0, .int .i64 0, .bool false]) ∧ Below w.heap.size w w') ∧
       ((∃ p : Int, Hid (∀ w, Calls Tryz.prog 77 #[.string ⟨t.toArray⟩, .string ⟨#[45, 48, 48, 48]⟩] w fun e w' => e = .returned (.tuple #[.int .i64 p, .int .i64 p, .bool true]) ∧ Below w.heap.size w w') ∧ tailOf y t = onNth y p) ∨
        (Hid (∀ w, Calls Tryz.prog 77 #[.string ⟨t.toArray⟩, .string ⟨#[45, 48, 48, 48]⟩] w fun e w' => e = .returned (.tuple #[.int .i64 0, .int .i64 0, .bool false]) ∧ Below w.heap.size w w') ∧ tailOf y t = none))))) := by
  by_cases l6 : t.length = 6
  · obtain ⟨a, b, c, d, f, g, rfl⟩ : ∃ a b c d f g, t = [a, b, c, d, f, g] := by
      match t, l6 with
      | [a, b, c, d, f, g], _ => exact ⟨a, b, c, d, f, g, rfl⟩
    by_cases hD : fitD a b c d f g
    · exact .inl ⟨_, _, Lib.hid fun w => numsD_yes a b c d f g hD w, by simp only [tailOf]; rw [if_pos hD]; rfl⟩
    · refine .inr ⟨Lib.hid fun w => numsD_no a b c d f g hD w, ?_⟩
      by_cases hW : fitW a b c d f g
      · exact .inl ⟨_, _, Lib.hid fun w => numsW_yes a b c d f g hW w, by simp only [tailOf]; rw [if_neg hD, if_pos hW]; rfl⟩
      · exact .inr ⟨Lib.hid fun w => numsW_no a b c d f g hW w, .inr ⟨Lib.hid fun w => numslN_no _ (by simp [ByteArray.size]) w, by simp only [tailOf]; rw [if_neg hD, if_neg hW]⟩⟩
  · refine .inr ⟨Lib.hid fun w => numslD_no _ (by simpa [ByteArray.size] using l6) w, .inr ⟨Lib.hid fun w => numslW_no _ (by simpa [ByteArray.size] using l6) w, ?_⟩⟩
    by_cases l4 : t.length = 4
    · obtain ⟨a, b, c, d, rfl⟩ : ∃ a b c d, t = [a, b, c, d] := by
        match t, l4 with
        | [a, b, c, d], _ => exact ⟨a, b, c, d, rfl⟩
      by_cases hN : fitN a b c d
      · exact .inl ⟨_, Lib.hid fun w => numsN_yes a b c d hN w, by simp only [tailOf]; rw [if_pos hN]; rfl⟩
      · exact .inr ⟨Lib.hid fun w => numsN_no a b c d hN w, by simp only [tailOf]; rw [if_neg hN]⟩
    · refine .inr ⟨Lib.hid fun w => numslN_no _ (by simpa [ByteArray.size] using l4) w, ?_⟩
      unfold tailOf
      split
      · exact absurd rfl l6
      · exact absurd rfl l4
      · rfl

theorem valY_bd {a b c d : UInt8} (h : fitY a b c d) : 0 ≤ valY a b c d ∧ valY a b c d ≤ 9999 := by
  unfold fitY at h
  unfold valY vd
  omega

theorem read_any (s : ByteArray) (w : World) (hT : Tab w) :
    Calls Tryz.prog 66 #[.string s] w fun e w' => e = .returned (.tuple #[.int .i64 (toldN (readOf s.data.toList)), .int .i64 (toldE (readOf s.data.toList))]) ∧ Below w.heap.size w w' := by
  unfold readOf
  generalize hr : Lib.trimPrefix s.data.toList [45] = r
  have h1 : (⟨(Lib.trimPrefix s.data.toList [45]).toArray⟩ : ByteArray) = ⟨r.toArray⟩ := by rw [hr]
  clear hr
  match r, h1 with
  | [], h1 => exact (read_short s _ _ w h1 rfl (by simp [ByteArray.size])).mono fun e w' ⟨he, hw⟩ => ⟨he, hw ▸ Below.refl _ _⟩
  | [_], h1 => exact (read_short s _ _ w h1 rfl (by simp [ByteArray.size])).mono fun e w' ⟨he, hw⟩ => ⟨he, hw ▸ Below.refl _ _⟩
  | [_, _], h1 => exact (read_short s _ _ w h1 rfl (by simp [ByteArray.size])).mono fun e w' ⟨he, hw⟩ => ⟨he, hw ▸ Below.refl _ _⟩
  | [_, _, _], h1 => exact (read_short s _ _ w h1 rfl (by simp [ByteArray.size])).mono fun e w' ⟨he, hw⟩ => ⟨he, hw ▸ Below.refl _ _⟩
  | a :: b :: c :: d :: t, h1 =>
    have h3 : 4 ≤ (ByteArray.mk (a :: b :: c :: d :: t).toArray).size := by simp [ByteArray.size]
    by_cases hY : fitY a b c d
    · have Y : Hid (∀ w, Calls Tryz.prog 77 #[.string ((ByteArray.mk (a :: b :: c :: d :: t).toArray).extract 0 4), .string ⟨#[48, 48, 48, 48]⟩] w fun e w' => e = .returned (.tuple #[.int .i64 (valY a b c d), .int .i64 (valY a b c d), .bool true]) ∧ Below w.heap.size w w') :=
        Lib.hid fun w => by rw [extr]; exact numsY_yes a b c d hY w
      have bd := valY_bd hY
      simp only [restOf]
      rw [if_pos hY]
      generalize valY a b c d = v at *
      cases hn : Lib.hasPrefix s.data.toList [45]
      · rw [if_neg (by simp), if_neg (by simp)]
        rcases tail_ways v t with ⟨p, q, N, e⟩ | ⟨N, ⟨p, q, N1, e⟩ | ⟨N1, ⟨p, N2, e⟩ | ⟨N2, e⟩⟩⟩
        · rw [e]
          exact readP0 s _ w hT h1 hn h3 v v Y bd.1 bd.2 p q (by rw [extr4]; exact N) _ _ (Lib.hid fun w hT => days_told v p q w hT)
        · rw [e]
          exact readP1 s _ w hT h1 hn h3 v v Y bd.1 bd.2 p q (by rw [extr4]; exact N) (by rw [extr4]; exact N1) _ _ (Lib.hid fun w hT => ofweek_told v p q w hT)
        · rw [e]
          exact readP2 s _ w hT h1 hn h3 v v Y bd.1 bd.2 p p (by rw [extr4]; exact N) (by rw [extr4]; exact N1) (by rw [extr4]; exact N2) _ _ (Lib.hid fun w hT => form3_ok v p p _ _ w (Lib.hid fun w hT => ofnth_told v p w hT) hT)
        · rw [e]
          exact readP3 s _ w hT h1 hn h3 v v Y bd.1 bd.2 (by rw [extr4]; exact N) (by rw [extr4]; exact N1) (by rw [extr4]; exact N2)
      · by_cases hz : v = 0
        · subst hz
          rw [if_pos ⟨rfl, rfl⟩]
          exact readZ s _ w h1 hn h3 0 Y
        · have hz' : (v == 0) = false := by simpa using hz
          rw [if_neg (by simp [hz]), if_pos rfl]
          rcases tail_ways (-v) t with ⟨p, q, N, e⟩ | ⟨N, ⟨p, q, N1, e⟩ | ⟨N1, ⟨p, N2, e⟩ | ⟨N2, e⟩⟩⟩
          · rw [e]
            exact readN0 s _ w hT h1 hn h3 v v Y bd.1 bd.2 hz' p q (by rw [extr4]; exact N) _ _ (Lib.hid fun w hT => days_told (-v) p q w hT)
          · rw [e]
            exact readN1 s _ w hT h1 hn h3 v v Y bd.1 bd.2 hz' p q (by rw [extr4]; exact N) (by rw [extr4]; exact N1) _ _ (Lib.hid fun w hT => ofweek_told (-v) p q w hT)
          · rw [e]
            exact readN2 s _ w hT h1 hn h3 v v Y bd.1 bd.2 hz' p p (by rw [extr4]; exact N) (by rw [extr4]; exact N1) (by rw [extr4]; exact N2) _ _ (Lib.hid fun w hT => form3_ok (-v) p p _ _ w (Lib.hid fun w hT => ofnth_told (-v) p w hT) hT)
          · rw [e]
            exact readN3 s _ w hT h1 hn h3 v v Y bd.1 bd.2 hz' (by rw [extr4]; exact N) (by rw [extr4]; exact N1) (by rw [extr4]; exact N2)
    · simp only [restOf]
      rw [if_neg hY]
      exact readX s _ _ w h1 rfl h3 (Lib.hid fun w => by rw [extr]; exact numsY_no a b c d hY w)
end Go.Proofs.YtimjendkpjojoaaGreatDoor
