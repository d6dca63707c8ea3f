/- ReadP in one. -/
import Derived.Test.YtimjendkpjojoaaGreatDoorKy
namespace Go.Proofs.YtimjendkpjojoaaGreatDoor
set_option linter.unusedVariables false
open Go.ChangeShapes Go.WideShapes Go.ChangeAt Go.RowKit

set_option maxHeartbeats 4000000 in
theorem readP0 (s : ByteArray) (rest : ByteArray) (w : World) (hT : Tab w) (h1 : (⟨(Lib.trimPrefix s.data.toList [45]).toArray⟩ : ByteArray) = rest) (h2 : Lib.hasPrefix s.data.toList [45] = false) (h3 : 4 ≤ rest.size)
    (a1 a2 : Int) (hY : Hid (∀ w, Calls Tryz.prog 77 #[.string (rest.extract 0 4), .string ⟨#[48, 48, 48, 48]⟩] w fun e w' => e = .returned (.tuple #[.int .i64 a1, .int .i64 a2, .bool true]) ∧ Below w.heap.size w w')) (ha : 0 ≤ a1) (ha' : a1 ≤ 9999)
    (p q : Int)
    (N0 : Hid (∀ w, Calls Tryz.prog 77 #[.string (rest.extract 4 rest.size), .string ⟨#[45, 48, 48, 45, 48, 48]⟩] w fun e w' => e = .returned (.tuple #[.int .i64 p, .int .i64 q, .bool true]) ∧ Below w.heap.size w w'))
    (r e : Int) (D : Hid (∀ w, Tab w → Calls Tryz.prog 91 #[.int .i64 a1, .int .i64 p, .int .i64 q] w fun e' w' => e' = .returned (.tuple #[.int .i64 r, .int .i64 e]) ∧ w = w')) :
    Calls Tryz.prog 66 #[.string s] w fun e' w' => e' = .returned (.tuple #[.int .i64 r, .int .i64 e]) ∧ Below w.heap.size w w' := by
  have C := fun w => Tryz.strings_CutPrefix s ⟨#[45]⟩ w
  rw [show (ByteArray.mk #[45]).data.toList = [45] from rfl, h1, h2] at C
  have C := Lib.hid C
  have h4 : 4 ≤ (rest.size : Int) := by omega
  have HT := Lib.hid hT
  clear h1 h2 h3 hT
  go_enter Tryz.func66, Tryz.ntmps66
  go_wp2_with (first
    | (go_at_call 76; (with_reducible refine (C.out _).mono ?_); rintro e w' ⟨rfl, rfl⟩)
    | (go_at_call 78; (with_reducible refine (forms_call _).mono ?_); rintro e w2 ⟨rfl, hF, b2⟩)
    | (go_at_call 77; (with_reducible refine (hY.out _).mono ?_); rintro e w1 ⟨rfl, b1⟩))
  have b3 := b1.trans (b2.mono b1.size)
  have HF := Lib.hid hF
  have HB := Lib.hid b3
  generalize w1.heap.size = B at *
  clear b1 b2 b3 hF
  go_loopw [45] (fun i wr => (i = .int .i64 0 ∧ Forms B wr ∧ Below w'.heap.size w' wr)) (fun i _ => (4 - intOf i).toNat)
  case atStart => exact ⟨rfl, HF.out, HB.out⟩
  case round =>
    clear HF HB
    rcases hrel with ⟨rfl, hF, hB⟩
    · have HF := Lib.hid hF
      have HB := Lib.hid hB
      obtain ⟨c0, c1, c2, c3, c4, c5⟩ := hF
      clear hB
      go_wp2
      go_region_with (first
        | (go_at_call 77; (with_reducible refine (N0.out _).mono ?_); rintro e w3 ⟨rfl, b3⟩; obtain ⟨hF3, hB3, hT3, k0, k1⟩ := after HF.out HB.out HT.out b3; have HF3 := Lib.hid hF3; have HB3 := Lib.hid hB3; have HT3 := Lib.hid hT3; clear hF3 hB3 hT3 b3))
      go_wp2_with (first
        | (go_at_call 91; (with_reducible refine (D.out _ HT3.out).mono ?_); rintro e w4 ⟨rfl, rfl⟩))
      go_returns
      exact ⟨rfl, HB3.out⟩

set_option maxHeartbeats 4000000 in
theorem readP1 (s : ByteArray) (rest : ByteArray) (w : World) (hT : Tab w) (h1 : (⟨(Lib.trimPrefix s.data.toList [45]).toArray⟩ : ByteArray) = rest) (h2 : Lib.hasPrefix s.data.toList [45] = false) (h3 : 4 ≤ rest.size)
    (a1 a2 : Int) (hY : Hid (∀ w, Calls Tryz.prog 77 #[.string (rest.extract 0 4), .string ⟨#[48, 48, 48, 48]⟩] w fun e w' => e = .returned (.tuple #[.int .i64 a1, .int .i64 a2, .bool true]) ∧ Below w.heap.size w w')) (ha : 0 ≤ a1) (ha' : a1 ≤ 9999)
    (p q : Int)
    (N0 : Hid (∀ w, Calls Tryz.prog 77 #[.string (rest.extract 4 rest.size), .string ⟨#[45, 48, 48, 45, 48, 48]⟩] w fun e w' => e = .returned (.tuple #[.int .i64 0, .int .i64 0, .bool false]) ∧ Below w.heap.size w w'))
    (N1 : Hid (∀ w, Calls Tryz.prog 77 #[.string (rest.extract 4 rest.size), .string ⟨#[45, 87, 48, 48, 45, 48]⟩] w fun e w' => e = .returned (.tuple #[.int .i64 p, .int .i64 q, .bool true]) ∧ Below w.heap.size w w'))
    (r e : Int) (D : Hid (∀ w, Tab w → Calls Tryz.prog 92 #[.int .i64 a1, .int .i64 p, .int .i64 q] w fun e' w' => e' = .returned (.tuple #[.int .i64 r, .int .i64 e]) ∧ w = w')) :
    Calls Tryz.prog 66 #[.string s] w fun e' w' => e' = .returned (.tuple #[.int .i64 r, .int .i64 e]) ∧ Below w.heap.size w w' := by
  have C := fun w => Tryz.strings_CutPrefix s ⟨#[45]⟩ w
  rw [show (ByteArray.mk #[45]).data.toList = [45] from rfl, h1, h2] at C
  have C := Lib.hid C
  have h4 : 4 ≤ (rest.size : Int) := by omega
  have HT := Lib.hid hT
  clear h1 h2 h3 hT
  go_enter Tryz.func66, Tryz.ntmps66
  go_wp2_with (first
    | (go_at_call 76; (with_reducible refine (C.out _).mono ?_); rintro e w' ⟨rfl, rfl⟩)
    | (go_at_call 78; (with_reducible refine (forms_call _).mono ?_); rintro e w2 ⟨rfl, hF, b2⟩)
    | (go_at_call 77; (with_reducible refine (hY.out _).mono ?_); rintro e w1 ⟨rfl, b1⟩))
  have b3 := b1.trans (b2.mono b1.size)
  have HF := Lib.hid hF
  have HB := Lib.hid b3
  generalize w1.heap.size = B at *
  clear b1 b2 b3 hF
  go_loopw [45] (fun i wr => (i = .int .i64 0 ∧ Forms B wr ∧ Below w'.heap.size w' wr) ∨ (i = .int .i64 1 ∧ Forms B wr ∧ Below w'.heap.size w' wr)) (fun i _ => (4 - intOf i).toNat)
  case atStart => exact .inl ⟨rfl, HF.out, HB.out⟩
  case round =>
    clear HF HB
    rcases hrel with ⟨rfl, hF, hB⟩ | ⟨rfl, hF, hB⟩
    · have HF := Lib.hid hF
      have HB := Lib.hid hB
      obtain ⟨c0, c1, c2, c3, c4, c5⟩ := hF
      clear hB
      go_wp2
      go_region_with (first
        | (go_at_call 77; (with_reducible refine (N0.out _).mono ?_); rintro e w3 ⟨rfl, b3⟩; obtain ⟨hF3, hB3, hT3, k0, k1⟩ := after HF.out HB.out HT.out b3; have HF3 := Lib.hid hF3; have HB3 := Lib.hid hB3; have HT3 := Lib.hid hT3; clear hF3 hB3 hT3 b3))
      go_wp2
      all_goals go_roundw
      case rel => exact .inr (⟨rfl, HF3.out, HB3.out⟩)
      case measure => simp [intOf]
    · have HF := Lib.hid hF
      have HB := Lib.hid hB
      obtain ⟨c0, c1, c2, c3, c4, c5⟩ := hF
      clear hB
      go_wp2
      go_region_with (first
        | (go_at_call 77; (with_reducible refine (N1.out _).mono ?_); rintro e w3 ⟨rfl, b3⟩; obtain ⟨hF3, hB3, hT3, k0, k1⟩ := after HF.out HB.out HT.out b3; have HF3 := Lib.hid hF3; have HB3 := Lib.hid hB3; have HT3 := Lib.hid hT3; clear hF3 hB3 hT3 b3))
      go_wp2_with (first
        | (go_at_call 92; (with_reducible refine (D.out _ HT3.out).mono ?_); rintro e w4 ⟨rfl, rfl⟩))
      go_returns
      exact ⟨rfl, HB3.out⟩

set_option maxHeartbeats 4000000 in
theorem readP2 (s : ByteArray) (rest : ByteArray) (w : World) (hT : Tab w) (h1 : (⟨(Lib.trimPrefix s.data.toList [45]).toArray⟩ : ByteArray) = rest) (h2 : Lib.hasPrefix s.data.toList [45] = false) (h3 : 4 ≤ rest.size)
    (a1 a2 : Int) (hY : Hid (∀ w, Calls Tryz.prog 77 #[.string (rest.extract 0 4), .string ⟨#[48, 48, 48, 48]⟩] w fun e w' => e = .returned (.tuple #[.int .i64 a1, .int .i64 a2, .bool true]) ∧ Below w.heap.size w w')) (ha : 0 ≤ a1) (ha' : a1 ≤ 9999)
    (p q : Int)
    (N0 : Hid (∀ w, Calls Tryz.prog 77 #[.string (rest.extract 4 rest.size), .string ⟨#[45, 48, 48, 45, 48, 48]⟩] w fun e w' => e = .returned (.tuple #[.int .i64 0, .int .i64 0, .bool false]) ∧ Below w.heap.size w w'))
    (N1 : Hid (∀ w, Calls Tryz.prog 77 #[.string (rest.extract 4 rest.size), .string ⟨#[45, 87, 48, 48, 45, 48]⟩] w fun e w' => e = .returned (.tuple #[.int .i64 0, .int .i64 0, .bool false]) ∧ Below w.heap.size w w'))
    (N2 : Hid (∀ w, Calls Tryz.prog 77 #[.string (rest.extract 4 rest.size), .string ⟨#[45, 48, 48, 48]⟩] w fun e w' => e = .returned (.tuple #[.int .i64 p, .int .i64 q, .bool true]) ∧ Below w.heap.size w w'))
    (r e : Int) (D : Hid (∀ w, Tab w → Calls Tryz.prog 93 #[.int .i64 a1, .int .i64 p, .int .i64 q] w fun e' w' => e' = .returned (.tuple #[.int .i64 r, .int .i64 e]) ∧ w = w')) :
    Calls Tryz.prog 66 #[.string s] w fun e' w' => e' = .returned (.tuple #[.int .i64 r, .int .i64 e]) ∧ Below w.heap.size w w' := by
  have C := fun w => Tryz.strings_CutPrefix s ⟨#[45]⟩ w
  rw [show (ByteArray.mk #[45]).data.toList = [45] from rfl, h1, h2] at C
  have C := Lib.hid C
  have h4 : 4 ≤ (rest.size : Int) := by omega
  have HT := Lib.hid hT
  clear h1 h2 h3 hT
  go_enter Tryz.func66, Tryz.ntmps66
  go_wp2_with (first
    | (go_at_call 76; (with_reducible refine (C.out _).mono ?_); rintro e w' ⟨rfl, rfl⟩)
    | (go_at_call 78; (with_reducible refine (forms_call _).mono ?_); rintro e w2 ⟨rfl, hF, b2⟩)
    | (go_at_call 77; (with_reducible refine (hY.out _).mono ?_); rintro e w1 ⟨rfl, b1⟩))
  have b3 := b1.trans (b2.mono b1.size)
  have HF := Lib.hid hF
  have HB := Lib.hid b3
  generalize w1.heap.size = B at *
  clear b1 b2 b3 hF
  go_loopw [45] (fun i wr => (i = .int .i64 0 ∧ Forms B wr ∧ Below w'.heap.size w' wr) ∨ (i = .int .i64 1 ∧ Forms B wr ∧ Below w'.heap.size w' wr) ∨ (i = .int .i64 2 ∧ Forms B wr ∧ Below w'.heap.size w' wr)) (fun i _ => (4 - intOf i).toNat)
  case atStart => exact .inl ⟨rfl, HF.out, HB.out⟩
  case round =>
    clear HF HB
    rcases hrel with ⟨rfl, hF, hB⟩ | ⟨rfl, hF, hB⟩ | ⟨rfl, hF, hB⟩
    · have HF := Lib.hid hF
      have HB := Lib.hid hB
      obtain ⟨c0, c1, c2, c3, c4, c5⟩ := hF
      clear hB
      go_wp2
      go_region_with (first
        | (go_at_call 77; (with_reducible refine (N0.out _).mono ?_); rintro e w3 ⟨rfl, b3⟩; obtain ⟨hF3, hB3, hT3, k0, k1⟩ := after HF.out HB.out HT.out b3; have HF3 := Lib.hid hF3; have HB3 := Lib.hid hB3; have HT3 := Lib.hid hT3; clear hF3 hB3 hT3 b3))
      go_wp2
      all_goals go_roundw
      case rel => exact .inr (.inl ⟨rfl, HF3.out, HB3.out⟩)
      case measure => simp [intOf]
    · have HF := Lib.hid hF
      have HB := Lib.hid hB
      obtain ⟨c0, c1, c2, c3, c4, c5⟩ := hF
      clear hB
      go_wp2
      go_region_with (first
        | (go_at_call 77; (with_reducible refine (N1.out _).mono ?_); rintro e w3 ⟨rfl, b3⟩; obtain ⟨hF3, hB3, hT3, k0, k1⟩ := after HF.out HB.out HT.out b3; have HF3 := Lib.hid hF3; have HB3 := Lib.hid hB3; have HT3 := Lib.hid hT3; clear hF3 hB3 hT3 b3))
      go_wp2
      all_goals go_roundw
      case rel => exact .inr (.inr (⟨rfl, HF3.out, HB3.out⟩))
      case measure => simp [intOf]
    · have HF := Lib.hid hF
      have HB := Lib.hid hB
      obtain ⟨c0, c1, c2, c3, c4, c5⟩ := hF
      clear hB
      go_wp2
      go_region_with (first
        | (go_at_call 77; (with_reducible refine (N2.out _).mono ?_); rintro e w3 ⟨rfl, b3⟩; obtain ⟨hF3, hB3, hT3, k0, k1⟩ := after HF.out HB.out HT.out b3; have HF3 := Lib.hid hF3; have HB3 := Lib.hid hB3; have HT3 := Lib.hid hT3; clear hF3 hB3 hT3 b3))
      go_wp2_with (first
        | (go_at_call 93; (with_reducible refine (D.out _ HT3.out).mono ?_); rintro e w4 ⟨rfl, rfl⟩))
      go_returns
      exact ⟨rfl, HB3.out⟩

set_option maxHeartbeats 4000000 in
theorem readP3 (s : ByteArray) (rest : ByteArray) (w : World) (hT : Tab w) (h1 : (⟨(Lib.trimPrefix s.data.toList [45]).toArray⟩ : ByteArray) = rest) (h2 : Lib.hasPrefix s.data.toList [45] = false) (h3 : 4 ≤ rest.size)
    (a1 a2 : Int) (hY : Hid (∀ w, Calls Tryz.prog 77 #[.string (rest.extract 0 4), .string ⟨#[48, 48, 48, 48]⟩] w fun e w' => e = .returned (.tuple #[.int .i64 a1, .int .i64 a2, .bool true]) ∧ Below w.heap.size w w')) (ha : 0 ≤ a1) (ha' : a1 ≤ 9999)
    
    (N0 : Hid (∀ w, Calls Tryz.prog 77 #[.string (rest.extract 4 rest.size), .string ⟨#[45, 48, 48, 45, 48, 48]⟩] w fun e w' => e = .returned (.tuple #[.int .i64 0, .int .i64 0, .bool false]) ∧ Below w.heap.size w w'))
    (N1 : Hid (∀ w, Calls Tryz.prog 77 #[.string (rest.extract 4 rest.size), .string ⟨#[45, 87, 48, 48, 45, 48]⟩] w fun e w' => e = .returned (.tuple #[.int .i64 0, .int .i64 0, .bool false]) ∧ Below w.heap.size w w'))
    (N2 : Hid (∀ w, Calls Tryz.prog 77 #[.string (rest.extract 4 rest.size), .string ⟨#[45, 48, 48, 48]⟩] w fun e w' => e = .returned (.tuple #[.int .i64 0, .int .i64 0, .bool false]) ∧ Below w.heap.size w w')) :
    Calls Tryz.prog 66 #[.string s] w fun e' w' => e' = .returned (.tuple #[.int .i64 0, .int .i64 30]) ∧ Below w.heap.size w w' := by
  have C := fun w => Tryz.strings_CutPrefix s ⟨#[45]⟩ w
  rw [show (ByteArray.mk #[45]).data.toList = [45] from rfl, h1, h2] at C
  have C := Lib.hid C
  have h4 : 4 ≤ (rest.size : Int) := by omega
  have HT := Lib.hid hT
  clear h1 h2 h3 hT
  go_enter Tryz.func66, Tryz.ntmps66
  go_wp2_with (first
    | (go_at_call 76; (with_reducible refine (C.out _).mono ?_); rintro e w' ⟨rfl, rfl⟩)
    | (go_at_call 78; (with_reducible refine (forms_call _).mono ?_); rintro e w2 ⟨rfl, hF, b2⟩)
    | (go_at_call 77; (with_reducible refine (hY.out _).mono ?_); rintro e w1 ⟨rfl, b1⟩))
  have b3 := b1.trans (b2.mono b1.size)
  have HF := Lib.hid hF
  have HB := Lib.hid b3
  generalize w1.heap.size = B at *
  clear b1 b2 b3 hF
  go_loopw [45] (fun i wr => (i = .int .i64 0 ∧ Forms B wr ∧ Below w'.heap.size w' wr) ∨ (i = .int .i64 1 ∧ Forms B wr ∧ Below w'.heap.size w' wr) ∨ (i = .int .i64 2 ∧ Forms B wr ∧ Below w'.heap.size w' wr) ∨ (i = .int .i64 3 ∧ Forms B wr ∧ Below w'.heap.size w' wr)) (fun i _ => (4 - intOf i).toNat)
  case atStart => exact .inl ⟨rfl, HF.out, HB.out⟩
  case round =>
    clear HF HB
    rcases hrel with ⟨rfl, hF, hB⟩ | ⟨rfl, hF, hB⟩ | ⟨rfl, hF, hB⟩ | ⟨rfl, hF, hB⟩
    · have HF := Lib.hid hF
      have HB := Lib.hid hB
      obtain ⟨c0, c1, c2, c3, c4, c5⟩ := hF
      clear hB
      go_wp2
      go_region_with (first
        | (go_at_call 77; (with_reducible refine (N0.out _).mono ?_); rintro e w3 ⟨rfl, b3⟩; obtain ⟨hF3, hB3, hT3, k0, k1⟩ := after HF.out HB.out HT.out b3; have HF3 := Lib.hid hF3; have HB3 := Lib.hid hB3; have HT3 := Lib.hid hT3; clear hF3 hB3 hT3 b3))
      go_wp2
      all_goals go_roundw
      case rel => exact .inr (.inl ⟨rfl, HF3.out, HB3.out⟩)
      case measure => simp [intOf]
    · have HF := Lib.hid hF
      have HB := Lib.hid hB
      obtain ⟨c0, c1, c2, c3, c4, c5⟩ := hF
      clear hB
      go_wp2
      go_region_with (first
        | (go_at_call 77; (with_reducible refine (N1.out _).mono ?_); rintro e w3 ⟨rfl, b3⟩; obtain ⟨hF3, hB3, hT3, k0, k1⟩ := after HF.out HB.out HT.out b3; have HF3 := Lib.hid hF3; have HB3 := Lib.hid hB3; have HT3 := Lib.hid hT3; clear hF3 hB3 hT3 b3))
      go_wp2
      all_goals go_roundw
      case rel => exact .inr (.inr (.inl ⟨rfl, HF3.out, HB3.out⟩))
      case measure => simp [intOf]
    · have HF := Lib.hid hF
      have HB := Lib.hid hB
      obtain ⟨c0, c1, c2, c3, c4, c5⟩ := hF
      clear hB
      go_wp2
      go_region_with (first
        | (go_at_call 77; (with_reducible refine (N2.out _).mono ?_); rintro e w3 ⟨rfl, b3⟩; obtain ⟨hF3, hB3, hT3, k0, k1⟩ := after HF.out HB.out HT.out b3; have HF3 := Lib.hid hF3; have HB3 := Lib.hid hB3; have HT3 := Lib.hid hT3; clear hF3 hB3 hT3 b3))
      go_wp2
      all_goals go_roundw
      case rel => exact .inr (.inr (.inr (⟨rfl, HF3.out, HB3.out⟩)))
      case measure => simp [intOf]
    · have HF := Lib.hid hF
      have HB := Lib.hid hB
      obtain ⟨c0, c1, c2, c3, c4, c5⟩ := hF
      clear hB
      go_wp2
      go_returns
      exact ⟨rfl, HB.out⟩

end Go.Proofs.YtimjendkpjojoaaGreatDoor
