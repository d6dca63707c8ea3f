/- Read at the examples' texts. -/
import Derived.Test.YthkddellilhhaaaGreatDoorReadP
import Derived.Test.YthkddellilhhaaaGreatDoorReadN
namespace Go.Proofs.YthkddellilhhaaaGreatDoor
set_option linter.unusedVariables false
open Go.ChangeShapes Go.WideShapes Go.ChangeAt Go.RowKit

theorem numsN_yes (a b c d : UInt8) (h : fitN a b c d) (w : World) :
    Calls Tryz.prog 68 #[.string ⟨#[a, b, c, d]⟩, .string ⟨#[45, 48, 48, 48]⟩] w fun e w' => e = .returned (.tuple #[.int .i64 ((((b.toNat : Int) - 48) * 10 + ((c.toNat : Int) - 48)) * 10 + ((d.toNat : Int) - 48)), .int .i64 ((((b.toNat : Int) - 48) * 10 + ((c.toNat : Int) - 48)) * 10 + ((d.toNat : Int) - 48)), .bool true]) ∧ Below w.heap.size w w' :=
  (numsN a b c d w).mono fun e w' ⟨h1, nq, hw⟩ => ⟨h1.elim (fun x => x.2) (fun x => absurd h x.1), hw ▸ drewN_below w nq⟩
theorem numsN_no (a b c d : UInt8) (h : ¬ fitN a b c d) (w : World) :
    Calls Tryz.prog 68 #[.string ⟨#[a, b, c, d]⟩, .string ⟨#[45, 48, 48, 48]⟩] w fun e w' => e = .returned (.tuple #[.int .i64 0, .int .i64 0, .bool false]) ∧ Below w.heap.size w w' :=
  (numsN a b c d w).mono fun e w' ⟨h1, nq, hw⟩ => ⟨h1.elim (fun x => absurd x.1 h) (fun x => x.2), hw ▸ drewN_below w nq⟩
theorem numslN_no (s : ByteArray) (h : s.size ≠ 4) (w : World) :
    Calls Tryz.prog 68 #[.string s, .string ⟨#[45, 48, 48, 48]⟩] w fun e w' => e = .returned (.tuple #[.int .i64 0, .int .i64 0, .bool false]) ∧ Below w.heap.size w w' :=
  (numslN s h w).mono fun e w' ⟨h1, hw⟩ => ⟨h1, hw ▸ Below.refl _ _⟩

theorem numsY_yes (a b c d : UInt8) (h : fitY a b c d) (w : World) :
    Calls Tryz.prog 68 #[.string ⟨#[a, b, c, d]⟩, .string ⟨#[48, 48, 48, 48]⟩] w fun e w' => e = .returned (.tuple #[.int .i64 (((((a.toNat : Int) - 48) * 10 + ((b.toNat : Int) - 48)) * 10 + ((c.toNat : Int) - 48)) * 10 + ((d.toNat : Int) - 48)), .int .i64 (((((a.toNat : Int) - 48) * 10 + ((b.toNat : Int) - 48)) * 10 + ((c.toNat : Int) - 48)) * 10 + ((d.toNat : Int) - 48)), .bool true]) ∧ Below w.heap.size w w' :=
  (numsY a b c d w).mono fun e w' ⟨h1, nq, hw⟩ => ⟨h1.elim (fun x => x.2) (fun x => absurd h x.1), hw ▸ drewN_below w nq⟩
theorem numsY_no (a b c d : UInt8) (h : ¬ fitY a b c d) (w : World) :
    Calls Tryz.prog 68 #[.string ⟨#[a, b, c, d]⟩, .string ⟨#[48, 48, 48, 48]⟩] w fun e w' => e = .returned (.tuple #[.int .i64 0, .int .i64 0, .bool false]) ∧ Below w.heap.size w w' :=
  (numsY a b c d w).mono fun e w' ⟨h1, nq, hw⟩ => ⟨h1.elim (fun x => absurd x.1 h) (fun x => x.2), hw ▸ drewN_below w nq⟩
theorem numslY_no (s : ByteArray) (h : s.size ≠ 4) (w : World) :
    Calls Tryz.prog 68 #[.string s, .string ⟨#[48, 48, 48, 48]⟩] w fun e w' => e = .returned (.tuple #[.int .i64 0, .int .i64 0, .bool false]) ∧ Below w.heap.size w w' :=
  (numslY s h w).mono fun e w' ⟨h1, hw⟩ => ⟨h1, hw ▸ Below.refl _ _⟩

theorem numsD_yes (a b c d f g : UInt8) (h : fitD a b c d f g) (w : World) :
    Calls Tryz.prog 68 #[.string ⟨#[a, b, c, d, f, g]⟩, .string ⟨#[45, 48, 48, 45, 48, 48]⟩] w fun e w' => e = .returned (.tuple #[.int .i64 (((b.toNat : Int) - 48) * 10 + ((c.toNat : Int) - 48)), .int .i64 (((f.toNat : Int) - 48) * 10 + ((g.toNat : Int) - 48)), .bool true]) ∧ Below w.heap.size w w' :=
  (numsD a b c d f g w).mono fun e w' ⟨h1, nq, hw⟩ => ⟨h1.elim (fun x => x.2) (fun x => absurd h x.1), hw ▸ drewN_below w nq⟩
theorem numsD_no (a b c d f g : UInt8) (h : ¬ fitD a b c d f g) (w : World) :
    Calls Tryz.prog 68 #[.string ⟨#[a, b, c, d, f, g]⟩, .string ⟨#[45, 48, 48, 45, 48, 48]⟩] w fun e w' => e = .returned (.tuple #[.int .i64 0, .int .i64 0, .bool false]) ∧ Below w.heap.size w w' :=
  (numsD a b c d f g w).mono fun e w' ⟨h1, nq, hw⟩ => ⟨h1.elim (fun x => absurd x.1 h) (fun x => x.2), hw ▸ drewN_below w nq⟩
theorem numslD_no (s : ByteArray) (h : s.size ≠ 6) (w : World) :
    Calls Tryz.prog 68 #[.string s, .string ⟨#[45, 48, 48, 45, 48, 48]⟩] w fun e w' => e = .returned (.tuple #[.int .i64 0, .int .i64 0, .bool false]) ∧ Below w.heap.size w w' :=
  (numslD s h w).mono fun e w' ⟨h1, hw⟩ => ⟨h1, hw ▸ Below.refl _ _⟩

theorem numsW_yes (a b c d f g : UInt8) (h : fitW a b c d f g) (w : World) :
    Calls Tryz.prog 68 #[.string ⟨#[a, b, c, d, f, g]⟩, .string ⟨#[45, 87, 48, 48, 45, 48]⟩] w fun e w' => e = .returned (.tuple #[.int .i64 (((c.toNat : Int) - 48) * 10 + ((d.toNat : Int) - 48)), .int .i64 ((g.toNat : Int) - 48), .bool true]) ∧ Below w.heap.size w w' :=
  (numsW a b c d f g w).mono fun e w' ⟨h1, nq, hw⟩ => ⟨h1.elim (fun x => x.2) (fun x => absurd h x.1), hw ▸ drewN_below w nq⟩
theorem numsW_no (a b c d f g : UInt8) (h : ¬ fitW a b c d f g) (w : World) :
    Calls Tryz.prog 68 #[.string ⟨#[a, b, c, d, f, g]⟩, .string ⟨#[45, 87, 48, 48, 45, 48]⟩] w fun e w' => e = .returned (.tuple #[.int .i64 0, .int .i64 0, .bool false]) ∧ Below w.heap.size w w' :=
  (numsW a b c d f g w).mono fun e w' ⟨h1, nq, hw⟩ => ⟨h1.elim (fun x => absurd x.1 h) (fun x => x.2), hw ▸ drewN_below w nq⟩
theorem numslW_no (s : ByteArray) (h : s.size ≠ 6) (w : World) :
    Calls Tryz.prog 68 #[.string s, .string ⟨#[45, 87, 48, 48, 45, 48]⟩] w fun e w' => e = .returned (.tuple #[.int .i64 0, .int .i64 0, .bool false]) ∧ Below w.heap.size w w' :=
  (numslW s h w).mono fun e w' ⟨h1, hw⟩ => ⟨h1, hw ▸ Below.refl _ _⟩

theorem read_c1 (w : World) (hT : Tab w) :
    Calls Tryz.prog 48 #[.string ⟨#[50, 48, 48, 49, 45, 51, 54, 54]⟩] w fun e' w' => e' = .returned (.tuple #[.int .i64 0, .int .i64 30]) ∧ Below w.heap.size w w' :=
  readP2 ⟨#[50, 48, 48, 49, 45, 51, 54, 54]⟩ ⟨#[50, 48, 48, 49, 45, 51, 54, 54]⟩ w hT rfl rfl (by decide) 2001 2001 (Lib.hid fun w => by rw [show (ByteArray.mk #[50, 48, 48, 49, 45, 51, 54, 54]).extract 0 4 = ⟨#[50, 48, 48, 49]⟩ from rfl]; exact numsY_yes 50 48 48 49 (by unfold fitY; decide) w) (by decide) (by decide) 366 366 (Lib.hid fun w => by rw [show (ByteArray.mk #[50, 48, 48, 49, 45, 51, 54, 54]).extract 4 (ByteArray.mk #[50, 48, 48, 49, 45, 51, 54, 54]).size = ⟨#[45, 51, 54, 54]⟩ from rfl]; exact numslD_no _ (by decide) w) (Lib.hid fun w => by rw [show (ByteArray.mk #[50, 48, 48, 49, 45, 51, 54, 54]).extract 4 (ByteArray.mk #[50, 48, 48, 49, 45, 51, 54, 54]).size = ⟨#[45, 51, 54, 54]⟩ from rfl]; exact numslW_no _ (by decide) w) (Lib.hid fun w => by rw [show (ByteArray.mk #[50, 48, 48, 49, 45, 51, 54, 54]).extract 4 (ByteArray.mk #[50, 48, 48, 49, 45, 51, 54, 54]).size = ⟨#[45, 51, 54, 54]⟩ from rfl]; exact numsN_yes 45 51 54 54 (by unfold fitN; decide) w) 0 30 (Lib.hid fun w hT => form3_ok 2001 366 366 0 30 w (Lib.hid fun w _ => ofnth_no 2001 366 w (by decide)) hT)

theorem read_c2 (w : World) (hT : Tab w) :
    Calls Tryz.prog 48 #[.string ⟨#[50, 48, 48, 48, 45, 50, 45, 50, 57]⟩] w fun e' w' => e' = .returned (.tuple #[.int .i64 0, .int .i64 30]) ∧ Below w.heap.size w w' :=
  readP3 ⟨#[50, 48, 48, 48, 45, 50, 45, 50, 57]⟩ ⟨#[50, 48, 48, 48, 45, 50, 45, 50, 57]⟩ w hT rfl rfl (by decide) 2000 2000 (Lib.hid fun w => by rw [show (ByteArray.mk #[50, 48, 48, 48, 45, 50, 45, 50, 57]).extract 0 4 = ⟨#[50, 48, 48, 48]⟩ from rfl]; exact numsY_yes 50 48 48 48 (by unfold fitY; decide) w) (by decide) (by decide) (Lib.hid fun w => by rw [show (ByteArray.mk #[50, 48, 48, 48, 45, 50, 45, 50, 57]).extract 4 (ByteArray.mk #[50, 48, 48, 48, 45, 50, 45, 50, 57]).size = ⟨#[45, 50, 45, 50, 57]⟩ from rfl]; exact numslD_no _ (by decide) w) (Lib.hid fun w => by rw [show (ByteArray.mk #[50, 48, 48, 48, 45, 50, 45, 50, 57]).extract 4 (ByteArray.mk #[50, 48, 48, 48, 45, 50, 45, 50, 57]).size = ⟨#[45, 50, 45, 50, 57]⟩ from rfl]; exact numslW_no _ (by decide) w) (Lib.hid fun w => by rw [show (ByteArray.mk #[50, 48, 48, 48, 45, 50, 45, 50, 57]).extract 4 (ByteArray.mk #[50, 48, 48, 48, 45, 50, 45, 50, 57]).size = ⟨#[45, 50, 45, 50, 57]⟩ from rfl]; exact numslN_no _ (by decide) w)

theorem read_c4 (w : World) (hT : Tab w) :
    Calls Tryz.prog 48 #[.string ⟨#[50, 48, 48, 52, 45, 87, 53, 51, 45, 54]⟩] w fun e' w' => e' = .returned (.tuple #[.int .i64 12784, .int .i64 0]) ∧ Below w.heap.size w w' :=
  readP1 ⟨#[50, 48, 48, 52, 45, 87, 53, 51, 45, 54]⟩ ⟨#[50, 48, 48, 52, 45, 87, 53, 51, 45, 54]⟩ w hT rfl rfl (by decide) 2004 2004 (Lib.hid fun w => by rw [show (ByteArray.mk #[50, 48, 48, 52, 45, 87, 53, 51, 45, 54]).extract 0 4 = ⟨#[50, 48, 48, 52]⟩ from rfl]; exact numsY_yes 50 48 48 52 (by unfold fitY; decide) w) (by decide) (by decide) 53 6 (Lib.hid fun w => by rw [show (ByteArray.mk #[50, 48, 48, 52, 45, 87, 53, 51, 45, 54]).extract 4 (ByteArray.mk #[50, 48, 48, 52, 45, 87, 53, 51, 45, 54]).size = ⟨#[45, 87, 53, 51, 45, 54]⟩ from rfl]; exact numsD_no 45 87 53 51 45 54 (by unfold fitD; decide) w) (Lib.hid fun w => by rw [show (ByteArray.mk #[50, 48, 48, 52, 45, 87, 53, 51, 45, 54]).extract 4 (ByteArray.mk #[50, 48, 48, 52, 45, 87, 53, 51, 45, 54]).size = ⟨#[45, 87, 53, 51, 45, 54]⟩ from rfl]; exact numsW_yes 45 87 53 51 45 54 (by unfold fitW; decide) w) 12784 0 (Lib.hid fun w hT => ofweek_ok 2004 53 6 w hT (by decide) (by decide) (by decide) (by decide) (by decide) (by decide))

theorem read_c5 (w : World) (hT : Tab w) :
    Calls Tryz.prog 48 #[.string ⟨#[50, 48, 48, 48, 45, 51, 54, 54]⟩] w fun e' w' => e' = .returned (.tuple #[.int .i64 11322, .int .i64 0]) ∧ Below w.heap.size w w' :=
  readP2 ⟨#[50, 48, 48, 48, 45, 51, 54, 54]⟩ ⟨#[50, 48, 48, 48, 45, 51, 54, 54]⟩ w hT rfl rfl (by decide) 2000 2000 (Lib.hid fun w => by rw [show (ByteArray.mk #[50, 48, 48, 48, 45, 51, 54, 54]).extract 0 4 = ⟨#[50, 48, 48, 48]⟩ from rfl]; exact numsY_yes 50 48 48 48 (by unfold fitY; decide) w) (by decide) (by decide) 366 366 (Lib.hid fun w => by rw [show (ByteArray.mk #[50, 48, 48, 48, 45, 51, 54, 54]).extract 4 (ByteArray.mk #[50, 48, 48, 48, 45, 51, 54, 54]).size = ⟨#[45, 51, 54, 54]⟩ from rfl]; exact numslD_no _ (by decide) w) (Lib.hid fun w => by rw [show (ByteArray.mk #[50, 48, 48, 48, 45, 51, 54, 54]).extract 4 (ByteArray.mk #[50, 48, 48, 48, 45, 51, 54, 54]).size = ⟨#[45, 51, 54, 54]⟩ from rfl]; exact numslW_no _ (by decide) w) (Lib.hid fun w => by rw [show (ByteArray.mk #[50, 48, 48, 48, 45, 51, 54, 54]).extract 4 (ByteArray.mk #[50, 48, 48, 48, 45, 51, 54, 54]).size = ⟨#[45, 51, 54, 54]⟩ from rfl]; exact numsN_yes 45 51 54 54 (by unfold fitN; decide) w) 11322 0 (Lib.hid fun w hT => form3_ok 2000 366 366 11322 0 w (Lib.hid fun w hT => ofnth_ok 2000 366 w hT (by decide) (by decide) (by decide) (by decide)) hT)

/-- A year that is -0000. -/
theorem readZ (s : ByteArray) (rest : ByteArray) (w : World) (h1 : (⟨(Lib.trimPrefix s.data.toList [45]).toArray⟩ : ByteArray) = rest) (h2 : Lib.hasPrefix s.data.toList [45] = true) (h3 : 4 ≤ rest.size)
    (a2 : Int) (hY : Hid (∀ w, Calls Tryz.prog 68 #[.string (rest.extract 0 4), .string ⟨#[48, 48, 48, 48]⟩] w fun e w' => e = .returned (.tuple #[.int .i64 0, .int .i64 a2, .bool true]) ∧ Below w.heap.size w w')) :
    Calls Tryz.prog 48 #[.string s] w fun e' w' => e' = .returned (.tuple #[.int .i64 0, .int .i64 30]) ∧ Below w.heap.size w w' := by
  have C := fun w => Tryz.strings_CutPrefix s ⟨#[45]⟩ w
  rw [show (ByteArray.mk #[45]).data.toList = [45] from rfl, h1, h2] at C
  have C := Lib.hid C
  have h4 : 4 ≤ (rest.size : Int) := by omega
  clear h1 h2 h3
  go_enter Tryz.func48, Tryz.ntmps48
  go_wp2_with (first
    | (go_at_call 67; (with_reducible refine (C.out _).mono ?_); rintro e w' ⟨rfl, rfl⟩)
    | (go_at_call 68; (with_reducible refine (hY.out _).mono ?_); rintro e w1 ⟨rfl, b1⟩))
  go_returns
  exact ⟨rfl, b1⟩
/-- A year that is no digits. -/
theorem readX (s : ByteArray) (rest : ByteArray) (b : Bool) (w : World) (h1 : (⟨(Lib.trimPrefix s.data.toList [45]).toArray⟩ : ByteArray) = rest) (h2 : Lib.hasPrefix s.data.toList [45] = b) (h3 : 4 ≤ rest.size)
    (hY : Hid (∀ w, Calls Tryz.prog 68 #[.string (rest.extract 0 4), .string ⟨#[48, 48, 48, 48]⟩] w fun e w' => e = .returned (.tuple #[.int .i64 0, .int .i64 0, .bool false]) ∧ Below w.heap.size w w')) :
    Calls Tryz.prog 48 #[.string s] w fun e' w' => e' = .returned (.tuple #[.int .i64 0, .int .i64 30]) ∧ Below w.heap.size w w' := by
  have C := fun w => Tryz.strings_CutPrefix s ⟨#[45]⟩ w
  rw [show (ByteArray.mk #[45]).data.toList = [45] from rfl, h1, h2] at C
  have C := Lib.hid C
  have h4 : 4 ≤ (rest.size : Int) := by omega
  clear h1 h2 h3
  go_enter Tryz.func48, Tryz.ntmps48
  go_wp2_with (first
    | (go_at_call 67; (with_reducible refine (C.out _).mono ?_); rintro e w' ⟨rfl, rfl⟩)
    | (go_at_call 68; (with_reducible refine (hY.out _).mono ?_); rintro e w1 ⟨rfl, b1⟩))
  go_returns
  exact ⟨rfl, b1⟩

theorem read_c3 (w : World) :
    Calls Tryz.prog 48 #[.string ⟨#[45, 48, 48, 48, 48, 45, 48, 49, 45, 48, 49]⟩] w fun e' w' => e' = .returned (.tuple #[.int .i64 0, .int .i64 30]) ∧ Below w.heap.size w w' :=
  readZ ⟨#[45, 48, 48, 48, 48, 45, 48, 49, 45, 48, 49]⟩ ⟨#[48, 48, 48, 48, 45, 48, 49, 45, 48, 49]⟩ w rfl rfl (by decide) 0 (Lib.hid fun w => by rw [show (ByteArray.mk #[48, 48, 48, 48, 45, 48, 49, 45, 48, 49]).extract 0 4 = ⟨#[48, 48, 48, 48]⟩ from rfl]; exact numsY_yes 48 48 48 48 (by unfold fitY; decide) w)

end Go.Proofs.YthkddellilhhaaaGreatDoor
