/- DateTexts: the walk. -/
import Derived.Test.YtmffagkgkbdkjaaDoorTextsM
import Derived.Test.YtmffagkgkbdkjaaDoorAwake
import Derived.BigRegion
import Derived.IntWalk
import Derived.Laws.IdiomStrings
namespace Go.Proofs.YtmffagkgkbdkjaaDoor
set_option linter.unusedVariables false
open Go.ChangeShapes Go.WideShapes Go.ChangeAt Go.RowKit

theorem conv_one (cb : UInt8) (W : World) (b : Nat) (h : W.cell? ⟨b, 0, none⟩ = some (.int .u8 (cb.toNat : Int))) :
    (convert 40 9 (.slice (some ⟨b, 0, none⟩) 1 1)).run Tryd.prog W = .ok (.string ⟨#[cb]⟩) W :=
  run_convert_bytes_back (P := Tryd.prog) W 40 9 5 ⟨b, 0, none⟩ 1 [cb] Tryd.underlying40 Tryd.underlying5 Tryd.underlying9 (fun j hj => by
    have : j = 0 := by simp at hj; exact hj
    subst this
    exact h)

/-- Read at a text does not say that day. -/
structure NotThat (x : ByteArray) (n v e : Int) : Prop where
  read : CR x v e
  ways : (e == 0) = false ∨ (e = 0 ∧ (v == n) = false)
/-- Four texts, as a row of memory. -/
structure Four (B : Nat) (x0 x1 x2 x3 : ByteArray) (w : World) : Prop where
  c0 : w.cell? ⟨B, 0, none⟩ = some (.string x0)
  c1 : w.cell? ⟨B, 1, none⟩ = some (.string x1)
  c2 : w.cell? ⟨B, 2, none⟩ = some (.string x2)
  c3 : w.cell? ⟨B, 3, none⟩ = some (.string x3)
theorem Four.keep {B : Nat} {x0 x1 x2 x3 : ByteArray} {w w' : World} (h : Four B x0 x1 x2 x3 w) (b : Below w.heap.size w w') : Four B x0 x1 x2 x3 w' := ⟨cell_keep h.c0 b, cell_keep h.c1 b, cell_keep h.c2 b, cell_keep h.c3 b⟩
theorem four_in (w : World) (x0 x1 x2 x3 : ByteArray) (t : TypeId) : Four w.heap.size x0 x1 x2 x3 (w.alloc (.cells #[.string x0, .string x1, .string x2, .string x3] t)) := by
  have h : (w.alloc (.cells #[.string x0, .string x1, .string x2, .string x3] t)).heap[w.heap.size]? = some (.cells #[.string x0, .string x1, .string x2, .string x3] t) := by
    show (w.heap.push _)[w.heap.size]? = _
    simp
  constructor <;> (unfold World.cell?; rw [h]; rfl)

set_option maxRecDepth 100000 in
set_option maxHeartbeats 8000000 in
theorem texts_10_same (n a : Int) (cb : UInt8) (k : Nat) (s : ByteArray) (T : CT n s 0) (hs : s.size = 10) (hs0 : s.toList.isEmpty = false) (w : World) (hT : Tabs w) (a1 : 0 ≤ a) (a2 : a ≤ 255) (ek : a % 10 = k) (v r : Int) (he : ((s.extract 0 k ++ ⟨#[cb]⟩ ++ s.extract (k + 1) 10).toList == s.toList) = true) (R : CR (s.extract 0 k ++ ⟨#[cb]⟩ ++ s.extract (k + 1) 10) v r)
    (v0 v1 v2 v3 e0 e1 e2 e3 : Int) (C0 : NotThat (s.extract 0 k ++ s.extract (k + 1) 10) n v0 e0) (C1 : NotThat (s.extract 0 k ++ ⟨#[cb]⟩ ++ s.extract k 10) n v1 e1) (C2 : NotThat (s ++ ⟨#[45]⟩) n v2 e2) (C3 : NotThat (⟨#[32]⟩ ++ s) n v3 e3) :
    Calls Tryd.prog 6 #[.int .i64 n, .int .u8 a, .int .u8 (cb.toNat : Int)] w fun e w' => e = .returned (.bool true) ∧ Below w.heap.size w w' := by
  have HT := Lib.hid hT
  clear hT
  have k2 : k < 10 := by omega
  have k0 : (0 : Int) ≤ k := by omega
  have k3 : (k : Int) ≤ 10 := by omega
  have k4 : (k : Int) + 1 ≤ 10 := by omega
  have k6 : 0 ≤ (k : Int) + 1 := by omega
  have k5 : ((k : Int) + 1).toNat = k + 1 := by omega
  have k7 : IntKind.i64.wrap ((k : Int) + 1) = (k : Int) + 1 := IntWalk.i64_in _ (by omega)
  have kc := conv_one cb
  go_enter Tryd.func6, Tryd.ntmps6
  go_wp2_with (first
    | (go_at_call 19; (with_reducible refine (T.out _ HT.out).mono ?_); rintro e w1 ⟨rfl, b1⟩; have H1 := Lib.hid (HT.out.keep b1)))
  go_region
  have HZ : Tab (w1.alloc (.cells #[.int .u8 (cb.toNat : Int)] 5)).drew := (H1.out.keep (((Below.refl _ w1).alloc (Nat.le_refl _) _).drew)).1
  have HZ := Lib.hid HZ
  go_wp2_with fail
  go_at_call 21
  with_reducible refine (R.out _ HZ.out).mono ?_
  rintro e' w2 ⟨rfl, b2⟩
  have B2 := Lib.hid b2
  clear b2
  go_wp2
  go_region
  have HF := Lib.hid ((four_in (w2.alloc (.cells #[.int .u8 (cb.toNat : Int)] 5)) (s.extract 0 k ++ s.extract (k + 1) 10) (s.extract 0 k ++ ⟨#[cb]⟩ ++ s.extract k 10) (s ++ ⟨#[45]⟩) (⟨#[32]⟩ ++ s) 9).keep ((Below.refl _ _).drew))
  have z1 : Below w.heap.size w w2 := b1.trans (Below.trans ((((Below.refl _ w1).alloc (Nat.le_refl _) (.cells #[.int .u8 (cb.toNat : Int)] 5)).drew).mono b1.size) (B2.out.mono (by have := b1.size; simp; omega)))
  have H4 := Lib.hid ((z1.alloc z1.size (.cells #[.int .u8 (cb.toNat : Int)] 5)))
  have H4 := Lib.hid ((H4.out.alloc H4.out.size (.cells #[.string (s.extract 0 k ++ s.extract (k + 1) 10), .string (s.extract 0 k ++ ⟨#[cb]⟩ ++ s.extract k 10), .string (s ++ ⟨#[45]⟩), .string (⟨#[32]⟩ ++ s)] 9)).drew)
  clear z1 b1 HZ k0 k3 k4 k5 k6 k7 kc he
  go_wp2
  go_loopw [92] (fun i wr => (i = .int .i64 0 ∧ Four (w2.heap.size + 1) (s.extract 0 k ++ s.extract (k + 1) 10) (s.extract 0 k ++ ⟨#[cb]⟩ ++ s.extract k 10) (s ++ ⟨#[45]⟩) (⟨#[32]⟩ ++ s) wr ∧ Below w.heap.size w wr) ∨ (i = .int .i64 1 ∧ Four (w2.heap.size + 1) (s.extract 0 k ++ s.extract (k + 1) 10) (s.extract 0 k ++ ⟨#[cb]⟩ ++ s.extract k 10) (s ++ ⟨#[45]⟩) (⟨#[32]⟩ ++ s) wr ∧ Below w.heap.size w wr) ∨ (i = .int .i64 2 ∧ Four (w2.heap.size + 1) (s.extract 0 k ++ s.extract (k + 1) 10) (s.extract 0 k ++ ⟨#[cb]⟩ ++ s.extract k 10) (s ++ ⟨#[45]⟩) (⟨#[32]⟩ ++ s) wr ∧ Below w.heap.size w wr) ∨ (i = .int .i64 3 ∧ Four (w2.heap.size + 1) (s.extract 0 k ++ s.extract (k + 1) 10) (s.extract 0 k ++ ⟨#[cb]⟩ ++ s.extract k 10) (s ++ ⟨#[45]⟩) (⟨#[32]⟩ ++ s) wr ∧ Below w.heap.size w wr) ∨ (i = .int .i64 4 ∧ Below w.heap.size w wr)) (fun i _ => (5 - intOf i).toNat)
  case atStart => exact .inl ⟨rfl, by simpa using HF.out, H4.out⟩
  case round =>
    clear HF H4
    rcases hrel with ⟨rfl, hF, hB⟩ | ⟨rfl, hF, hB⟩ | ⟨rfl, hF, hB⟩ | ⟨rfl, hF, hB⟩ | ⟨rfl, hB⟩
    · have HF := Lib.hid hF
      have H4 := Lib.hid hB
      have HTr := Lib.hid (HT.out.keep hB).1
      obtain ⟨c0, c1, c2, c3⟩ := hF
      clear hB
      have CC := Lib.hid C0.read.out
      rcases C0.ways with d | ⟨d, d'⟩
      · go_wp2_with (go_at_call 21; (with_reducible refine (CC.out _ HTr.out).mono ?_); rintro e w5 ⟨rfl, b5⟩; have H5 := Lib.hid (H4.out.trans (b5.mono H4.out.size)))
        all_goals go_roundw
        case rel => exact .inr (.inl ⟨rfl, HF.out.keep b5, H5.out⟩)
        case measure => simp [intOf]
      · subst d
        go_wp2_with (go_at_call 21; (with_reducible refine (CC.out _ HTr.out).mono ?_); rintro e w5 ⟨rfl, b5⟩; have H5 := Lib.hid (H4.out.trans (b5.mono H4.out.size)))
        all_goals go_roundw
        case rel => exact .inr (.inl ⟨rfl, HF.out.keep b5, H5.out⟩)
        case measure => simp [intOf]
    · have HF := Lib.hid hF
      have H4 := Lib.hid hB
      have HTr := Lib.hid (HT.out.keep hB).1
      obtain ⟨c0, c1, c2, c3⟩ := hF
      clear hB
      have CC := Lib.hid C1.read.out
      rcases C1.ways with d | ⟨d, d'⟩
      · go_wp2_with (go_at_call 21; (with_reducible refine (CC.out _ HTr.out).mono ?_); rintro e w5 ⟨rfl, b5⟩; have H5 := Lib.hid (H4.out.trans (b5.mono H4.out.size)))
        all_goals go_roundw
        case rel => exact .inr (.inr (.inl ⟨rfl, HF.out.keep b5, H5.out⟩))
        case measure => simp [intOf]
      · subst d
        go_wp2_with (go_at_call 21; (with_reducible refine (CC.out _ HTr.out).mono ?_); rintro e w5 ⟨rfl, b5⟩; have H5 := Lib.hid (H4.out.trans (b5.mono H4.out.size)))
        all_goals go_roundw
        case rel => exact .inr (.inr (.inl ⟨rfl, HF.out.keep b5, H5.out⟩))
        case measure => simp [intOf]
    · have HF := Lib.hid hF
      have H4 := Lib.hid hB
      have HTr := Lib.hid (HT.out.keep hB).1
      obtain ⟨c0, c1, c2, c3⟩ := hF
      clear hB
      have CC := Lib.hid C2.read.out
      rcases C2.ways with d | ⟨d, d'⟩
      · go_wp2_with (go_at_call 21; (with_reducible refine (CC.out _ HTr.out).mono ?_); rintro e w5 ⟨rfl, b5⟩; have H5 := Lib.hid (H4.out.trans (b5.mono H4.out.size)))
        all_goals go_roundw
        case rel => exact .inr (.inr (.inr (.inl ⟨rfl, HF.out.keep b5, H5.out⟩)))
        case measure => simp [intOf]
      · subst d
        go_wp2_with (go_at_call 21; (with_reducible refine (CC.out _ HTr.out).mono ?_); rintro e w5 ⟨rfl, b5⟩; have H5 := Lib.hid (H4.out.trans (b5.mono H4.out.size)))
        all_goals go_roundw
        case rel => exact .inr (.inr (.inr (.inl ⟨rfl, HF.out.keep b5, H5.out⟩)))
        case measure => simp [intOf]
    · have HF := Lib.hid hF
      have H4 := Lib.hid hB
      have HTr := Lib.hid (HT.out.keep hB).1
      obtain ⟨c0, c1, c2, c3⟩ := hF
      clear hB
      have CC := Lib.hid C3.read.out
      rcases C3.ways with d | ⟨d, d'⟩
      · go_wp2_with (go_at_call 21; (with_reducible refine (CC.out _ HTr.out).mono ?_); rintro e w5 ⟨rfl, b5⟩; have H5 := Lib.hid (H4.out.trans (b5.mono H4.out.size)))
        all_goals go_roundw
        case rel => exact .inr (.inr (.inr (.inr ⟨rfl, H5.out⟩)))
        case measure => simp [intOf]
      · subst d
        go_wp2_with (go_at_call 21; (with_reducible refine (CC.out _ HTr.out).mono ?_); rintro e w5 ⟨rfl, b5⟩; have H5 := Lib.hid (H4.out.trans (b5.mono H4.out.size)))
        all_goals go_roundw
        case rel => exact .inr (.inr (.inr (.inr ⟨rfl, H5.out⟩)))
        case measure => simp [intOf]
    · have H4 := Lib.hid hB
      have HTr := Lib.hid (HT.out.keep hB)
      clear hB
      go_wp2_with (go_at_call 8; (with_reducible refine (awake _ HTr.out).mono ?_); rintro e w7 ⟨rfl, b7⟩; have H7 := Lib.hid (H4.out.trans (b7.mono H4.out.size)))
      go_returns
      exact ⟨rfl, H7.out⟩

set_option maxRecDepth 100000 in
set_option maxHeartbeats 8000000 in
theorem texts_10_other (n a : Int) (cb : UInt8) (k : Nat) (s : ByteArray) (T : CT n s 0) (hs : s.size = 10) (hs0 : s.toList.isEmpty = false) (w : World) (hT : Tabs w) (a1 : 0 ≤ a) (a2 : a ≤ 255) (ek : a % 10 = k) (v : Int) (he : ((s.extract 0 k ++ ⟨#[cb]⟩ ++ s.extract (k + 1) 10).toList == s.toList) = false) (hv : (v == n) = false) (R : CR (s.extract 0 k ++ ⟨#[cb]⟩ ++ s.extract (k + 1) 10) v 0)
    (v0 v1 v2 v3 e0 e1 e2 e3 : Int) (C0 : NotThat (s.extract 0 k ++ s.extract (k + 1) 10) n v0 e0) (C1 : NotThat (s.extract 0 k ++ ⟨#[cb]⟩ ++ s.extract k 10) n v1 e1) (C2 : NotThat (s ++ ⟨#[45]⟩) n v2 e2) (C3 : NotThat (⟨#[32]⟩ ++ s) n v3 e3) :
    Calls Tryd.prog 6 #[.int .i64 n, .int .u8 a, .int .u8 (cb.toNat : Int)] w fun e w' => e = .returned (.bool true) ∧ Below w.heap.size w w' := by
  have HT := Lib.hid hT
  clear hT
  have k2 : k < 10 := by omega
  have k0 : (0 : Int) ≤ k := by omega
  have k3 : (k : Int) ≤ 10 := by omega
  have k4 : (k : Int) + 1 ≤ 10 := by omega
  have k6 : 0 ≤ (k : Int) + 1 := by omega
  have k5 : ((k : Int) + 1).toNat = k + 1 := by omega
  have k7 : IntKind.i64.wrap ((k : Int) + 1) = (k : Int) + 1 := IntWalk.i64_in _ (by omega)
  have kc := conv_one cb
  go_enter Tryd.func6, Tryd.ntmps6
  go_wp2_with (first
    | (go_at_call 19; (with_reducible refine (T.out _ HT.out).mono ?_); rintro e w1 ⟨rfl, b1⟩; have H1 := Lib.hid (HT.out.keep b1)))
  go_region
  have HZ : Tab (w1.alloc (.cells #[.int .u8 (cb.toNat : Int)] 5)).drew := (H1.out.keep (((Below.refl _ w1).alloc (Nat.le_refl _) _).drew)).1
  have HZ := Lib.hid HZ
  go_wp2_with fail
  go_at_call 21
  with_reducible refine (R.out _ HZ.out).mono ?_
  rintro e' w2 ⟨rfl, b2⟩
  have B2 := Lib.hid b2
  clear b2
  go_wp2
  go_region
  have HF := Lib.hid ((four_in (w2.alloc (.cells #[.int .u8 (cb.toNat : Int)] 5)) (s.extract 0 k ++ s.extract (k + 1) 10) (s.extract 0 k ++ ⟨#[cb]⟩ ++ s.extract k 10) (s ++ ⟨#[45]⟩) (⟨#[32]⟩ ++ s) 9).keep ((Below.refl _ _).drew))
  have z1 : Below w.heap.size w w2 := b1.trans (Below.trans ((((Below.refl _ w1).alloc (Nat.le_refl _) (.cells #[.int .u8 (cb.toNat : Int)] 5)).drew).mono b1.size) (B2.out.mono (by have := b1.size; simp; omega)))
  have H4 := Lib.hid ((z1.alloc z1.size (.cells #[.int .u8 (cb.toNat : Int)] 5)))
  have H4 := Lib.hid ((H4.out.alloc H4.out.size (.cells #[.string (s.extract 0 k ++ s.extract (k + 1) 10), .string (s.extract 0 k ++ ⟨#[cb]⟩ ++ s.extract k 10), .string (s ++ ⟨#[45]⟩), .string (⟨#[32]⟩ ++ s)] 9)).drew)
  clear z1 b1 HZ k0 k3 k4 k5 k6 k7 kc he
  go_wp2
  go_loopw [92] (fun i wr => (i = .int .i64 0 ∧ Four (w2.heap.size + 1) (s.extract 0 k ++ s.extract (k + 1) 10) (s.extract 0 k ++ ⟨#[cb]⟩ ++ s.extract k 10) (s ++ ⟨#[45]⟩) (⟨#[32]⟩ ++ s) wr ∧ Below w.heap.size w wr) ∨ (i = .int .i64 1 ∧ Four (w2.heap.size + 1) (s.extract 0 k ++ s.extract (k + 1) 10) (s.extract 0 k ++ ⟨#[cb]⟩ ++ s.extract k 10) (s ++ ⟨#[45]⟩) (⟨#[32]⟩ ++ s) wr ∧ Below w.heap.size w wr) ∨ (i = .int .i64 2 ∧ Four (w2.heap.size + 1) (s.extract 0 k ++ s.extract (k + 1) 10) (s.extract 0 k ++ ⟨#[cb]⟩ ++ s.extract k 10) (s ++ ⟨#[45]⟩) (⟨#[32]⟩ ++ s) wr ∧ Below w.heap.size w wr) ∨ (i = .int .i64 3 ∧ Four (w2.heap.size + 1) (s.extract 0 k ++ s.extract (k + 1) 10) (s.extract 0 k ++ ⟨#[cb]⟩ ++ s.extract k 10) (s ++ ⟨#[45]⟩) (⟨#[32]⟩ ++ s) wr ∧ Below w.heap.size w wr) ∨ (i = .int .i64 4 ∧ Below w.heap.size w wr)) (fun i _ => (5 - intOf i).toNat)
  case atStart => exact .inl ⟨rfl, by simpa using HF.out, H4.out⟩
  case round =>
    clear HF H4
    rcases hrel with ⟨rfl, hF, hB⟩ | ⟨rfl, hF, hB⟩ | ⟨rfl, hF, hB⟩ | ⟨rfl, hF, hB⟩ | ⟨rfl, hB⟩
    · have HF := Lib.hid hF
      have H4 := Lib.hid hB
      have HTr := Lib.hid (HT.out.keep hB).1
      obtain ⟨c0, c1, c2, c3⟩ := hF
      clear hB
      have CC := Lib.hid C0.read.out
      rcases C0.ways with d | ⟨d, d'⟩
      · go_wp2_with (go_at_call 21; (with_reducible refine (CC.out _ HTr.out).mono ?_); rintro e w5 ⟨rfl, b5⟩; have H5 := Lib.hid (H4.out.trans (b5.mono H4.out.size)))
        all_goals go_roundw
        case rel => exact .inr (.inl ⟨rfl, HF.out.keep b5, H5.out⟩)
        case measure => simp [intOf]
      · subst d
        go_wp2_with (go_at_call 21; (with_reducible refine (CC.out _ HTr.out).mono ?_); rintro e w5 ⟨rfl, b5⟩; have H5 := Lib.hid (H4.out.trans (b5.mono H4.out.size)))
        all_goals go_roundw
        case rel => exact .inr (.inl ⟨rfl, HF.out.keep b5, H5.out⟩)
        case measure => simp [intOf]
    · have HF := Lib.hid hF
      have H4 := Lib.hid hB
      have HTr := Lib.hid (HT.out.keep hB).1
      obtain ⟨c0, c1, c2, c3⟩ := hF
      clear hB
      have CC := Lib.hid C1.read.out
      rcases C1.ways with d | ⟨d, d'⟩
      · go_wp2_with (go_at_call 21; (with_reducible refine (CC.out _ HTr.out).mono ?_); rintro e w5 ⟨rfl, b5⟩; have H5 := Lib.hid (H4.out.trans (b5.mono H4.out.size)))
        all_goals go_roundw
        case rel => exact .inr (.inr (.inl ⟨rfl, HF.out.keep b5, H5.out⟩))
        case measure => simp [intOf]
      · subst d
        go_wp2_with (go_at_call 21; (with_reducible refine (CC.out _ HTr.out).mono ?_); rintro e w5 ⟨rfl, b5⟩; have H5 := Lib.hid (H4.out.trans (b5.mono H4.out.size)))
        all_goals go_roundw
        case rel => exact .inr (.inr (.inl ⟨rfl, HF.out.keep b5, H5.out⟩))
        case measure => simp [intOf]
    · have HF := Lib.hid hF
      have H4 := Lib.hid hB
      have HTr := Lib.hid (HT.out.keep hB).1
      obtain ⟨c0, c1, c2, c3⟩ := hF
      clear hB
      have CC := Lib.hid C2.read.out
      rcases C2.ways with d | ⟨d, d'⟩
      · go_wp2_with (go_at_call 21; (with_reducible refine (CC.out _ HTr.out).mono ?_); rintro e w5 ⟨rfl, b5⟩; have H5 := Lib.hid (H4.out.trans (b5.mono H4.out.size)))
        all_goals go_roundw
        case rel => exact .inr (.inr (.inr (.inl ⟨rfl, HF.out.keep b5, H5.out⟩)))
        case measure => simp [intOf]
      · subst d
        go_wp2_with (go_at_call 21; (with_reducible refine (CC.out _ HTr.out).mono ?_); rintro e w5 ⟨rfl, b5⟩; have H5 := Lib.hid (H4.out.trans (b5.mono H4.out.size)))
        all_goals go_roundw
        case rel => exact .inr (.inr (.inr (.inl ⟨rfl, HF.out.keep b5, H5.out⟩)))
        case measure => simp [intOf]
    · have HF := Lib.hid hF
      have H4 := Lib.hid hB
      have HTr := Lib.hid (HT.out.keep hB).1
      obtain ⟨c0, c1, c2, c3⟩ := hF
      clear hB
      have CC := Lib.hid C3.read.out
      rcases C3.ways with d | ⟨d, d'⟩
      · go_wp2_with (go_at_call 21; (with_reducible refine (CC.out _ HTr.out).mono ?_); rintro e w5 ⟨rfl, b5⟩; have H5 := Lib.hid (H4.out.trans (b5.mono H4.out.size)))
        all_goals go_roundw
        case rel => exact .inr (.inr (.inr (.inr ⟨rfl, H5.out⟩)))
        case measure => simp [intOf]
      · subst d
        go_wp2_with (go_at_call 21; (with_reducible refine (CC.out _ HTr.out).mono ?_); rintro e w5 ⟨rfl, b5⟩; have H5 := Lib.hid (H4.out.trans (b5.mono H4.out.size)))
        all_goals go_roundw
        case rel => exact .inr (.inr (.inr (.inr ⟨rfl, H5.out⟩)))
        case measure => simp [intOf]
    · have H4 := Lib.hid hB
      have HTr := Lib.hid (HT.out.keep hB)
      clear hB
      go_wp2_with (go_at_call 8; (with_reducible refine (awake _ HTr.out).mono ?_); rintro e w7 ⟨rfl, b7⟩; have H7 := Lib.hid (H4.out.trans (b7.mono H4.out.size)))
      go_returns
      exact ⟨rfl, H7.out⟩

set_option maxRecDepth 100000 in
set_option maxHeartbeats 8000000 in
theorem texts_10_none (n a : Int) (cb : UInt8) (k : Nat) (s : ByteArray) (T : CT n s 0) (hs : s.size = 10) (hs0 : s.toList.isEmpty = false) (w : World) (hT : Tabs w) (a1 : 0 ≤ a) (a2 : a ≤ 255) (ek : a % 10 = k) (v r : Int) (he : ((s.extract 0 k ++ ⟨#[cb]⟩ ++ s.extract (k + 1) 10).toList == s.toList) = false) (hd : (r == 0) = false) (R : CR (s.extract 0 k ++ ⟨#[cb]⟩ ++ s.extract (k + 1) 10) v r)
    (v0 v1 v2 v3 e0 e1 e2 e3 : Int) (C0 : NotThat (s.extract 0 k ++ s.extract (k + 1) 10) n v0 e0) (C1 : NotThat (s.extract 0 k ++ ⟨#[cb]⟩ ++ s.extract k 10) n v1 e1) (C2 : NotThat (s ++ ⟨#[45]⟩) n v2 e2) (C3 : NotThat (⟨#[32]⟩ ++ s) n v3 e3) :
    Calls Tryd.prog 6 #[.int .i64 n, .int .u8 a, .int .u8 (cb.toNat : Int)] w fun e w' => e = .returned (.bool true) ∧ Below w.heap.size w w' := by
  have HT := Lib.hid hT
  clear hT
  have k2 : k < 10 := by omega
  have k0 : (0 : Int) ≤ k := by omega
  have k3 : (k : Int) ≤ 10 := by omega
  have k4 : (k : Int) + 1 ≤ 10 := by omega
  have k6 : 0 ≤ (k : Int) + 1 := by omega
  have k5 : ((k : Int) + 1).toNat = k + 1 := by omega
  have k7 : IntKind.i64.wrap ((k : Int) + 1) = (k : Int) + 1 := IntWalk.i64_in _ (by omega)
  have kc := conv_one cb
  go_enter Tryd.func6, Tryd.ntmps6
  go_wp2_with (first
    | (go_at_call 19; (with_reducible refine (T.out _ HT.out).mono ?_); rintro e w1 ⟨rfl, b1⟩; have H1 := Lib.hid (HT.out.keep b1)))
  go_region
  have HZ : Tab (w1.alloc (.cells #[.int .u8 (cb.toNat : Int)] 5)).drew := (H1.out.keep (((Below.refl _ w1).alloc (Nat.le_refl _) _).drew)).1
  have HZ := Lib.hid HZ
  go_wp2_with fail
  go_at_call 21
  with_reducible refine (R.out _ HZ.out).mono ?_
  rintro e' w2 ⟨rfl, b2⟩
  have B2 := Lib.hid b2
  clear b2
  go_wp2
  go_region
  have HF := Lib.hid ((four_in (w2.alloc (.cells #[.int .u8 (cb.toNat : Int)] 5)) (s.extract 0 k ++ s.extract (k + 1) 10) (s.extract 0 k ++ ⟨#[cb]⟩ ++ s.extract k 10) (s ++ ⟨#[45]⟩) (⟨#[32]⟩ ++ s) 9).keep ((Below.refl _ _).drew))
  have z1 : Below w.heap.size w w2 := b1.trans (Below.trans ((((Below.refl _ w1).alloc (Nat.le_refl _) (.cells #[.int .u8 (cb.toNat : Int)] 5)).drew).mono b1.size) (B2.out.mono (by have := b1.size; simp; omega)))
  have H4 := Lib.hid ((z1.alloc z1.size (.cells #[.int .u8 (cb.toNat : Int)] 5)))
  have H4 := Lib.hid ((H4.out.alloc H4.out.size (.cells #[.string (s.extract 0 k ++ s.extract (k + 1) 10), .string (s.extract 0 k ++ ⟨#[cb]⟩ ++ s.extract k 10), .string (s ++ ⟨#[45]⟩), .string (⟨#[32]⟩ ++ s)] 9)).drew)
  clear z1 b1 HZ k0 k3 k4 k5 k6 k7 kc he
  go_wp2
  go_loopw [92] (fun i wr => (i = .int .i64 0 ∧ Four (w2.heap.size + 1) (s.extract 0 k ++ s.extract (k + 1) 10) (s.extract 0 k ++ ⟨#[cb]⟩ ++ s.extract k 10) (s ++ ⟨#[45]⟩) (⟨#[32]⟩ ++ s) wr ∧ Below w.heap.size w wr) ∨ (i = .int .i64 1 ∧ Four (w2.heap.size + 1) (s.extract 0 k ++ s.extract (k + 1) 10) (s.extract 0 k ++ ⟨#[cb]⟩ ++ s.extract k 10) (s ++ ⟨#[45]⟩) (⟨#[32]⟩ ++ s) wr ∧ Below w.heap.size w wr) ∨ (i = .int .i64 2 ∧ Four (w2.heap.size + 1) (s.extract 0 k ++ s.extract (k + 1) 10) (s.extract 0 k ++ ⟨#[cb]⟩ ++ s.extract k 10) (s ++ ⟨#[45]⟩) (⟨#[32]⟩ ++ s) wr ∧ Below w.heap.size w wr) ∨ (i = .int .i64 3 ∧ Four (w2.heap.size + 1) (s.extract 0 k ++ s.extract (k + 1) 10) (s.extract 0 k ++ ⟨#[cb]⟩ ++ s.extract k 10) (s ++ ⟨#[45]⟩) (⟨#[32]⟩ ++ s) wr ∧ Below w.heap.size w wr) ∨ (i = .int .i64 4 ∧ Below w.heap.size w wr)) (fun i _ => (5 - intOf i).toNat)
  case atStart => exact .inl ⟨rfl, by simpa using HF.out, H4.out⟩
  case round =>
    clear HF H4
    rcases hrel with ⟨rfl, hF, hB⟩ | ⟨rfl, hF, hB⟩ | ⟨rfl, hF, hB⟩ | ⟨rfl, hF, hB⟩ | ⟨rfl, hB⟩
    · have HF := Lib.hid hF
      have H4 := Lib.hid hB
      have HTr := Lib.hid (HT.out.keep hB).1
      obtain ⟨c0, c1, c2, c3⟩ := hF
      clear hB
      have CC := Lib.hid C0.read.out
      rcases C0.ways with d | ⟨d, d'⟩
      · go_wp2_with (go_at_call 21; (with_reducible refine (CC.out _ HTr.out).mono ?_); rintro e w5 ⟨rfl, b5⟩; have H5 := Lib.hid (H4.out.trans (b5.mono H4.out.size)))
        all_goals go_roundw
        case rel => exact .inr (.inl ⟨rfl, HF.out.keep b5, H5.out⟩)
        case measure => simp [intOf]
      · subst d
        go_wp2_with (go_at_call 21; (with_reducible refine (CC.out _ HTr.out).mono ?_); rintro e w5 ⟨rfl, b5⟩; have H5 := Lib.hid (H4.out.trans (b5.mono H4.out.size)))
        all_goals go_roundw
        case rel => exact .inr (.inl ⟨rfl, HF.out.keep b5, H5.out⟩)
        case measure => simp [intOf]
    · have HF := Lib.hid hF
      have H4 := Lib.hid hB
      have HTr := Lib.hid (HT.out.keep hB).1
      obtain ⟨c0, c1, c2, c3⟩ := hF
      clear hB
      have CC := Lib.hid C1.read.out
      rcases C1.ways with d | ⟨d, d'⟩
      · go_wp2_with (go_at_call 21; (with_reducible refine (CC.out _ HTr.out).mono ?_); rintro e w5 ⟨rfl, b5⟩; have H5 := Lib.hid (H4.out.trans (b5.mono H4.out.size)))
        all_goals go_roundw
        case rel => exact .inr (.inr (.inl ⟨rfl, HF.out.keep b5, H5.out⟩))
        case measure => simp [intOf]
      · subst d
        go_wp2_with (go_at_call 21; (with_reducible refine (CC.out _ HTr.out).mono ?_); rintro e w5 ⟨rfl, b5⟩; have H5 := Lib.hid (H4.out.trans (b5.mono H4.out.size)))
        all_goals go_roundw
        case rel => exact .inr (.inr (.inl ⟨rfl, HF.out.keep b5, H5.out⟩))
        case measure => simp [intOf]
    · have HF := Lib.hid hF
      have H4 := Lib.hid hB
      have HTr := Lib.hid (HT.out.keep hB).1
      obtain ⟨c0, c1, c2, c3⟩ := hF
      clear hB
      have CC := Lib.hid C2.read.out
      rcases C2.ways with d | ⟨d, d'⟩
      · go_wp2_with (go_at_call 21; (with_reducible refine (CC.out _ HTr.out).mono ?_); rintro e w5 ⟨rfl, b5⟩; have H5 := Lib.hid (H4.out.trans (b5.mono H4.out.size)))
        all_goals go_roundw
        case rel => exact .inr (.inr (.inr (.inl ⟨rfl, HF.out.keep b5, H5.out⟩)))
        case measure => simp [intOf]
      · subst d
        go_wp2_with (go_at_call 21; (with_reducible refine (CC.out _ HTr.out).mono ?_); rintro e w5 ⟨rfl, b5⟩; have H5 := Lib.hid (H4.out.trans (b5.mono H4.out.size)))
        all_goals go_roundw
        case rel => exact .inr (.inr (.inr (.inl ⟨rfl, HF.out.keep b5, H5.out⟩)))
        case measure => simp [intOf]
    · have HF := Lib.hid hF
      have H4 := Lib.hid hB
      have HTr := Lib.hid (HT.out.keep hB).1
      obtain ⟨c0, c1, c2, c3⟩ := hF
      clear hB
      have CC := Lib.hid C3.read.out
      rcases C3.ways with d | ⟨d, d'⟩
      · go_wp2_with (go_at_call 21; (with_reducible refine (CC.out _ HTr.out).mono ?_); rintro e w5 ⟨rfl, b5⟩; have H5 := Lib.hid (H4.out.trans (b5.mono H4.out.size)))
        all_goals go_roundw
        case rel => exact .inr (.inr (.inr (.inr ⟨rfl, H5.out⟩)))
        case measure => simp [intOf]
      · subst d
        go_wp2_with (go_at_call 21; (with_reducible refine (CC.out _ HTr.out).mono ?_); rintro e w5 ⟨rfl, b5⟩; have H5 := Lib.hid (H4.out.trans (b5.mono H4.out.size)))
        all_goals go_roundw
        case rel => exact .inr (.inr (.inr (.inr ⟨rfl, H5.out⟩)))
        case measure => simp [intOf]
    · have H4 := Lib.hid hB
      have HTr := Lib.hid (HT.out.keep hB)
      clear hB
      go_wp2_with (go_at_call 8; (with_reducible refine (awake _ HTr.out).mono ?_); rintro e w7 ⟨rfl, b7⟩; have H7 := Lib.hid (H4.out.trans (b7.mono H4.out.size)))
      go_returns
      exact ⟨rfl, H7.out⟩

set_option maxRecDepth 100000 in
set_option maxHeartbeats 8000000 in
theorem texts_11_same (n a : Int) (cb : UInt8) (k : Nat) (s : ByteArray) (T : CT n s 0) (hs : s.size = 11) (hs0 : s.toList.isEmpty = false) (w : World) (hT : Tabs w) (a1 : 0 ≤ a) (a2 : a ≤ 255) (ek : a % 11 = k) (v r : Int) (he : ((s.extract 0 k ++ ⟨#[cb]⟩ ++ s.extract (k + 1) 11).toList == s.toList) = true) (R : CR (s.extract 0 k ++ ⟨#[cb]⟩ ++ s.extract (k + 1) 11) v r)
    (v0 v1 v2 v3 e0 e1 e2 e3 : Int) (C0 : NotThat (s.extract 0 k ++ s.extract (k + 1) 11) n v0 e0) (C1 : NotThat (s.extract 0 k ++ ⟨#[cb]⟩ ++ s.extract k 11) n v1 e1) (C2 : NotThat (s ++ ⟨#[45]⟩) n v2 e2) (C3 : NotThat (⟨#[32]⟩ ++ s) n v3 e3) :
    Calls Tryd.prog 6 #[.int .i64 n, .int .u8 a, .int .u8 (cb.toNat : Int)] w fun e w' => e = .returned (.bool true) ∧ Below w.heap.size w w' := by
  have HT := Lib.hid hT
  clear hT
  have k2 : k < 11 := by omega
  have k0 : (0 : Int) ≤ k := by omega
  have k3 : (k : Int) ≤ 11 := by omega
  have k4 : (k : Int) + 1 ≤ 11 := by omega
  have k6 : 0 ≤ (k : Int) + 1 := by omega
  have k5 : ((k : Int) + 1).toNat = k + 1 := by omega
  have k7 : IntKind.i64.wrap ((k : Int) + 1) = (k : Int) + 1 := IntWalk.i64_in _ (by omega)
  have kc := conv_one cb
  go_enter Tryd.func6, Tryd.ntmps6
  go_wp2_with (first
    | (go_at_call 19; (with_reducible refine (T.out _ HT.out).mono ?_); rintro e w1 ⟨rfl, b1⟩; have H1 := Lib.hid (HT.out.keep b1)))
  go_region
  have HZ : Tab (w1.alloc (.cells #[.int .u8 (cb.toNat : Int)] 5)).drew := (H1.out.keep (((Below.refl _ w1).alloc (Nat.le_refl _) _).drew)).1
  have HZ := Lib.hid HZ
  go_wp2_with fail
  go_at_call 21
  with_reducible refine (R.out _ HZ.out).mono ?_
  rintro e' w2 ⟨rfl, b2⟩
  have B2 := Lib.hid b2
  clear b2
  go_wp2
  go_region
  have HF := Lib.hid ((four_in (w2.alloc (.cells #[.int .u8 (cb.toNat : Int)] 5)) (s.extract 0 k ++ s.extract (k + 1) 11) (s.extract 0 k ++ ⟨#[cb]⟩ ++ s.extract k 11) (s ++ ⟨#[45]⟩) (⟨#[32]⟩ ++ s) 9).keep ((Below.refl _ _).drew))
  have z1 : Below w.heap.size w w2 := b1.trans (Below.trans ((((Below.refl _ w1).alloc (Nat.le_refl _) (.cells #[.int .u8 (cb.toNat : Int)] 5)).drew).mono b1.size) (B2.out.mono (by have := b1.size; simp; omega)))
  have H4 := Lib.hid ((z1.alloc z1.size (.cells #[.int .u8 (cb.toNat : Int)] 5)))
  have H4 := Lib.hid ((H4.out.alloc H4.out.size (.cells #[.string (s.extract 0 k ++ s.extract (k + 1) 11), .string (s.extract 0 k ++ ⟨#[cb]⟩ ++ s.extract k 11), .string (s ++ ⟨#[45]⟩), .string (⟨#[32]⟩ ++ s)] 9)).drew)
  clear z1 b1 HZ k0 k3 k4 k5 k6 k7 kc he
  go_wp2
  go_loopw [92] (fun i wr => (i = .int .i64 0 ∧ Four (w2.heap.size + 1) (s.extract 0 k ++ s.extract (k + 1) 11) (s.extract 0 k ++ ⟨#[cb]⟩ ++ s.extract k 11) (s ++ ⟨#[45]⟩) (⟨#[32]⟩ ++ s) wr ∧ Below w.heap.size w wr) ∨ (i = .int .i64 1 ∧ Four (w2.heap.size + 1) (s.extract 0 k ++ s.extract (k + 1) 11) (s.extract 0 k ++ ⟨#[cb]⟩ ++ s.extract k 11) (s ++ ⟨#[45]⟩) (⟨#[32]⟩ ++ s) wr ∧ Below w.heap.size w wr) ∨ (i = .int .i64 2 ∧ Four (w2.heap.size + 1) (s.extract 0 k ++ s.extract (k + 1) 11) (s.extract 0 k ++ ⟨#[cb]⟩ ++ s.extract k 11) (s ++ ⟨#[45]⟩) (⟨#[32]⟩ ++ s) wr ∧ Below w.heap.size w wr) ∨ (i = .int .i64 3 ∧ Four (w2.heap.size + 1) (s.extract 0 k ++ s.extract (k + 1) 11) (s.extract 0 k ++ ⟨#[cb]⟩ ++ s.extract k 11) (s ++ ⟨#[45]⟩) (⟨#[32]⟩ ++ s) wr ∧ Below w.heap.size w wr) ∨ (i = .int .i64 4 ∧ Below w.heap.size w wr)) (fun i _ => (5 - intOf i).toNat)
  case atStart => exact .inl ⟨rfl, by simpa using HF.out, H4.out⟩
  case round =>
    clear HF H4
    rcases hrel with ⟨rfl, hF, hB⟩ | ⟨rfl, hF, hB⟩ | ⟨rfl, hF, hB⟩ | ⟨rfl, hF, hB⟩ | ⟨rfl, hB⟩
    · have HF := Lib.hid hF
      have H4 := Lib.hid hB
      have HTr := Lib.hid (HT.out.keep hB).1
      obtain ⟨c0, c1, c2, c3⟩ := hF
      clear hB
      have CC := Lib.hid C0.read.out
      rcases C0.ways with d | ⟨d, d'⟩
      · go_wp2_with (go_at_call 21; (with_reducible refine (CC.out _ HTr.out).mono ?_); rintro e w5 ⟨rfl, b5⟩; have H5 := Lib.hid (H4.out.trans (b5.mono H4.out.size)))
        all_goals go_roundw
        case rel => exact .inr (.inl ⟨rfl, HF.out.keep b5, H5.out⟩)
        case measure => simp [intOf]
      · subst d
        go_wp2_with (go_at_call 21; (with_reducible refine (CC.out _ HTr.out).mono ?_); rintro e w5 ⟨rfl, b5⟩; have H5 := Lib.hid (H4.out.trans (b5.mono H4.out.size)))
        all_goals go_roundw
        case rel => exact .inr (.inl ⟨rfl, HF.out.keep b5, H5.out⟩)
        case measure => simp [intOf]
    · have HF := Lib.hid hF
      have H4 := Lib.hid hB
      have HTr := Lib.hid (HT.out.keep hB).1
      obtain ⟨c0, c1, c2, c3⟩ := hF
      clear hB
      have CC := Lib.hid C1.read.out
      rcases C1.ways with d | ⟨d, d'⟩
      · go_wp2_with (go_at_call 21; (with_reducible refine (CC.out _ HTr.out).mono ?_); rintro e w5 ⟨rfl, b5⟩; have H5 := Lib.hid (H4.out.trans (b5.mono H4.out.size)))
        all_goals go_roundw
        case rel => exact .inr (.inr (.inl ⟨rfl, HF.out.keep b5, H5.out⟩))
        case measure => simp [intOf]
      · subst d
        go_wp2_with (go_at_call 21; (with_reducible refine (CC.out _ HTr.out).mono ?_); rintro e w5 ⟨rfl, b5⟩; have H5 := Lib.hid (H4.out.trans (b5.mono H4.out.size)))
        all_goals go_roundw
        case rel => exact .inr (.inr (.inl ⟨rfl, HF.out.keep b5, H5.out⟩))
        case measure => simp [intOf]
    · have HF := Lib.hid hF
      have H4 := Lib.hid hB
      have HTr := Lib.hid (HT.out.keep hB).1
      obtain ⟨c0, c1, c2, c3⟩ := hF
      clear hB
      have CC := Lib.hid C2.read.out
      rcases C2.ways with d | ⟨d, d'⟩
      · go_wp2_with (go_at_call 21; (with_reducible refine (CC.out _ HTr.out).mono ?_); rintro e w5 ⟨rfl, b5⟩; have H5 := Lib.hid (H4.out.trans (b5.mono H4.out.size)))
        all_goals go_roundw
        case rel => exact .inr (.inr (.inr (.inl ⟨rfl, HF.out.keep b5, H5.out⟩)))
        case measure => simp [intOf]
      · subst d
        go_wp2_with (go_at_call 21; (with_reducible refine (CC.out _ HTr.out).mono ?_); rintro e w5 ⟨rfl, b5⟩; have H5 := Lib.hid (H4.out.trans (b5.mono H4.out.size)))
        all_goals go_roundw
        case rel => exact .inr (.inr (.inr (.inl ⟨rfl, HF.out.keep b5, H5.out⟩)))
        case measure => simp [intOf]
    · have HF := Lib.hid hF
      have H4 := Lib.hid hB
      have HTr := Lib.hid (HT.out.keep hB).1
      obtain ⟨c0, c1, c2, c3⟩ := hF
      clear hB
      have CC := Lib.hid C3.read.out
      rcases C3.ways with d | ⟨d, d'⟩
      · go_wp2_with (go_at_call 21; (with_reducible refine (CC.out _ HTr.out).mono ?_); rintro e w5 ⟨rfl, b5⟩; have H5 := Lib.hid (H4.out.trans (b5.mono H4.out.size)))
        all_goals go_roundw
        case rel => exact .inr (.inr (.inr (.inr ⟨rfl, H5.out⟩)))
        case measure => simp [intOf]
      · subst d
        go_wp2_with (go_at_call 21; (with_reducible refine (CC.out _ HTr.out).mono ?_); rintro e w5 ⟨rfl, b5⟩; have H5 := Lib.hid (H4.out.trans (b5.mono H4.out.size)))
        all_goals go_roundw
        case rel => exact .inr (.inr (.inr (.inr ⟨rfl, H5.out⟩)))
        case measure => simp [intOf]
    · have H4 := Lib.hid hB
      have HTr := Lib.hid (HT.out.keep hB)
      clear hB
      go_wp2_with (go_at_call 8; (with_reducible refine (awake _ HTr.out).mono ?_); rintro e w7 ⟨rfl, b7⟩; have H7 := Lib.hid (H4.out.trans (b7.mono H4.out.size)))
      go_returns
      exact ⟨rfl, H7.out⟩

set_option maxRecDepth 100000 in
set_option maxHeartbeats 8000000 in
theorem texts_11_other (n a : Int) (cb : UInt8) (k : Nat) (s : ByteArray) (T : CT n s 0) (hs : s.size = 11) (hs0 : s.toList.isEmpty = false) (w : World) (hT : Tabs w) (a1 : 0 ≤ a) (a2 : a ≤ 255) (ek : a % 11 = k) (v : Int) (he : ((s.extract 0 k ++ ⟨#[cb]⟩ ++ s.extract (k + 1) 11).toList == s.toList) = false) (hv : (v == n) = false) (R : CR (s.extract 0 k ++ ⟨#[cb]⟩ ++ s.extract (k + 1) 11) v 0)
    (v0 v1 v2 v3 e0 e1 e2 e3 : Int) (C0 : NotThat (s.extract 0 k ++ s.extract (k + 1) 11) n v0 e0) (C1 : NotThat (s.extract 0 k ++ ⟨#[cb]⟩ ++ s.extract k 11) n v1 e1) (C2 : NotThat (s ++ ⟨#[45]⟩) n v2 e2) (C3 : NotThat (⟨#[32]⟩ ++ s) n v3 e3) :
    Calls Tryd.prog 6 #[.int .i64 n, .int .u8 a, .int .u8 (cb.toNat : Int)] w fun e w' => e = .returned (.bool true) ∧ Below w.heap.size w w' := by
  have HT := Lib.hid hT
  clear hT
  have k2 : k < 11 := by omega
  have k0 : (0 : Int) ≤ k := by omega
  have k3 : (k : Int) ≤ 11 := by omega
  have k4 : (k : Int) + 1 ≤ 11 := by omega
  have k6 : 0 ≤ (k : Int) + 1 := by omega
  have k5 : ((k : Int) + 1).toNat = k + 1 := by omega
  have k7 : IntKind.i64.wrap ((k : Int) + 1) = (k : Int) + 1 := IntWalk.i64_in _ (by omega)
  have kc := conv_one cb
  go_enter Tryd.func6, Tryd.ntmps6
  go_wp2_with (first
    | (go_at_call 19; (with_reducible refine (T.out _ HT.out).mono ?_); rintro e w1 ⟨rfl, b1⟩; have H1 := Lib.hid (HT.out.keep b1)))
  go_region
  have HZ : Tab (w1.alloc (.cells #[.int .u8 (cb.toNat : Int)] 5)).drew := (H1.out.keep (((Below.refl _ w1).alloc (Nat.le_refl _) _).drew)).1
  have HZ := Lib.hid HZ
  go_wp2_with fail
  go_at_call 21
  with_reducible refine (R.out _ HZ.out).mono ?_
  rintro e' w2 ⟨rfl, b2⟩
  have B2 := Lib.hid b2
  clear b2
  go_wp2
  go_region
  have HF := Lib.hid ((four_in (w2.alloc (.cells #[.int .u8 (cb.toNat : Int)] 5)) (s.extract 0 k ++ s.extract (k + 1) 11) (s.extract 0 k ++ ⟨#[cb]⟩ ++ s.extract k 11) (s ++ ⟨#[45]⟩) (⟨#[32]⟩ ++ s) 9).keep ((Below.refl _ _).drew))
  have z1 : Below w.heap.size w w2 := b1.trans (Below.trans ((((Below.refl _ w1).alloc (Nat.le_refl _) (.cells #[.int .u8 (cb.toNat : Int)] 5)).drew).mono b1.size) (B2.out.mono (by have := b1.size; simp; omega)))
  have H4 := Lib.hid ((z1.alloc z1.size (.cells #[.int .u8 (cb.toNat : Int)] 5)))
  have H4 := Lib.hid ((H4.out.alloc H4.out.size (.cells #[.string (s.extract 0 k ++ s.extract (k + 1) 11), .string (s.extract 0 k ++ ⟨#[cb]⟩ ++ s.extract k 11), .string (s ++ ⟨#[45]⟩), .string (⟨#[32]⟩ ++ s)] 9)).drew)
  clear z1 b1 HZ k0 k3 k4 k5 k6 k7 kc he
  go_wp2
  go_loopw [92] (fun i wr => (i = .int .i64 0 ∧ Four (w2.heap.size + 1) (s.extract 0 k ++ s.extract (k + 1) 11) (s.extract 0 k ++ ⟨#[cb]⟩ ++ s.extract k 11) (s ++ ⟨#[45]⟩) (⟨#[32]⟩ ++ s) wr ∧ Below w.heap.size w wr) ∨ (i = .int .i64 1 ∧ Four (w2.heap.size + 1) (s.extract 0 k ++ s.extract (k + 1) 11) (s.extract 0 k ++ ⟨#[cb]⟩ ++ s.extract k 11) (s ++ ⟨#[45]⟩) (⟨#[32]⟩ ++ s) wr ∧ Below w.heap.size w wr) ∨ (i = .int .i64 2 ∧ Four (w2.heap.size + 1) (s.extract 0 k ++ s.extract (k + 1) 11) (s.extract 0 k ++ ⟨#[cb]⟩ ++ s.extract k 11) (s ++ ⟨#[45]⟩) (⟨#[32]⟩ ++ s) wr ∧ Below w.heap.size w wr) ∨ (i = .int .i64 3 ∧ Four (w2.heap.size + 1) (s.extract 0 k ++ s.extract (k + 1) 11) (s.extract 0 k ++ ⟨#[cb]⟩ ++ s.extract k 11) (s ++ ⟨#[45]⟩) (⟨#[32]⟩ ++ s) wr ∧ Below w.heap.size w wr) ∨ (i = .int .i64 4 ∧ Below w.heap.size w wr)) (fun i _ => (5 - intOf i).toNat)
  case atStart => exact .inl ⟨rfl, by simpa using HF.out, H4.out⟩
  case round =>
    clear HF H4
    rcases hrel with ⟨rfl, hF, hB⟩ | ⟨rfl, hF, hB⟩ | ⟨rfl, hF, hB⟩ | ⟨rfl, hF, hB⟩ | ⟨rfl, hB⟩
    · have HF := Lib.hid hF
      have H4 := Lib.hid hB
      have HTr := Lib.hid (HT.out.keep hB).1
      obtain ⟨c0, c1, c2, c3⟩ := hF
      clear hB
      have CC := Lib.hid C0.read.out
      rcases C0.ways with d | ⟨d, d'⟩
      · go_wp2_with (go_at_call 21; (with_reducible refine (CC.out _ HTr.out).mono ?_); rintro e w5 ⟨rfl, b5⟩; have H5 := Lib.hid (H4.out.trans (b5.mono H4.out.size)))
        all_goals go_roundw
        case rel => exact .inr (.inl ⟨rfl, HF.out.keep b5, H5.out⟩)
        case measure => simp [intOf]
      · subst d
        go_wp2_with (go_at_call 21; (with_reducible refine (CC.out _ HTr.out).mono ?_); rintro e w5 ⟨rfl, b5⟩; have H5 := Lib.hid (H4.out.trans (b5.mono H4.out.size)))
        all_goals go_roundw
        case rel => exact .inr (.inl ⟨rfl, HF.out.keep b5, H5.out⟩)
        case measure => simp [intOf]
    · have HF := Lib.hid hF
      have H4 := Lib.hid hB
      have HTr := Lib.hid (HT.out.keep hB).1
      obtain ⟨c0, c1, c2, c3⟩ := hF
      clear hB
      have CC := Lib.hid C1.read.out
      rcases C1.ways with d | ⟨d, d'⟩
      · go_wp2_with (go_at_call 21; (with_reducible refine (CC.out _ HTr.out).mono ?_); rintro e w5 ⟨rfl, b5⟩; have H5 := Lib.hid (H4.out.trans (b5.mono H4.out.size)))
        all_goals go_roundw
        case rel => exact .inr (.inr (.inl ⟨rfl, HF.out.keep b5, H5.out⟩))
        case measure => simp [intOf]
      · subst d
        go_wp2_with (go_at_call 21; (with_reducible refine (CC.out _ HTr.out).mono ?_); rintro e w5 ⟨rfl, b5⟩; have H5 := Lib.hid (H4.out.trans (b5.mono H4.out.size)))
        all_goals go_roundw
        case rel => exact .inr (.inr (.inl ⟨rfl, HF.out.keep b5, H5.out⟩))
        case measure => simp [intOf]
    · have HF := Lib.hid hF
      have H4 := Lib.hid hB
      have HTr := Lib.hid (HT.out.keep hB).1
      obtain ⟨c0, c1, c2, c3⟩ := hF
      clear hB
      have CC := Lib.hid C2.read.out
      rcases C2.ways with d | ⟨d, d'⟩
      · go_wp2_with (go_at_call 21; (with_reducible refine (CC.out _ HTr.out).mono ?_); rintro e w5 ⟨rfl, b5⟩; have H5 := Lib.hid (H4.out.trans (b5.mono H4.out.size)))
        all_goals go_roundw
        case rel => exact .inr (.inr (.inr (.inl ⟨rfl, HF.out.keep b5, H5.out⟩)))
        case measure => simp [intOf]
      · subst d
        go_wp2_with (go_at_call 21; (with_reducible refine (CC.out _ HTr.out).mono ?_); rintro e w5 ⟨rfl, b5⟩; have H5 := Lib.hid (H4.out.trans (b5.mono H4.out.size)))
        all_goals go_roundw
        case rel => exact .inr (.inr (.inr (.inl ⟨rfl, HF.out.keep b5, H5.out⟩)))
        case measure => simp [intOf]
    · have HF := Lib.hid hF
      have H4 := Lib.hid hB
      have HTr := Lib.hid (HT.out.keep hB).1
      obtain ⟨c0, c1, c2, c3⟩ := hF
      clear hB
      have CC := Lib.hid C3.read.out
      rcases C3.ways with d | ⟨d, d'⟩
      · go_wp2_with (go_at_call 21; (with_reducible refine (CC.out _ HTr.out).mono ?_); rintro e w5 ⟨rfl, b5⟩; have H5 := Lib.hid (H4.out.trans (b5.mono H4.out.size)))
        all_goals go_roundw
        case rel => exact .inr (.inr (.inr (.inr ⟨rfl, H5.out⟩)))
        case measure => simp [intOf]
      · subst d
        go_wp2_with (go_at_call 21; (with_reducible refine (CC.out _ HTr.out).mono ?_); rintro e w5 ⟨rfl, b5⟩; have H5 := Lib.hid (H4.out.trans (b5.mono H4.out.size)))
        all_goals go_roundw
        case rel => exact .inr (.inr (.inr (.inr ⟨rfl, H5.out⟩)))
        case measure => simp [intOf]
    · have H4 := Lib.hid hB
      have HTr := Lib.hid (HT.out.keep hB)
      clear hB
      go_wp2_with (go_at_call 8; (with_reducible refine (awake _ HTr.out).mono ?_); rintro e w7 ⟨rfl, b7⟩; have H7 := Lib.hid (H4.out.trans (b7.mono H4.out.size)))
      go_returns
      exact ⟨rfl, H7.out⟩

set_option maxRecDepth 100000 in
set_option maxHeartbeats 8000000 in
theorem texts_11_none (n a : Int) (cb : UInt8) (k : Nat) (s : ByteArray) (T : CT n s 0) (hs : s.size = 11) (hs0 : s.toList.isEmpty = false) (w : World) (hT : Tabs w) (a1 : 0 ≤ a) (a2 : a ≤ 255) (ek : a % 11 = k) (v r : Int) (he : ((s.extract 0 k ++ ⟨#[cb]⟩ ++ s.extract (k + 1) 11).toList == s.toList) = false) (hd : (r == 0) = false) (R : CR (s.extract 0 k ++ ⟨#[cb]⟩ ++ s.extract (k + 1) 11) v r)
    (v0 v1 v2 v3 e0 e1 e2 e3 : Int) (C0 : NotThat (s.extract 0 k ++ s.extract (k + 1) 11) n v0 e0) (C1 : NotThat (s.extract 0 k ++ ⟨#[cb]⟩ ++ s.extract k 11) n v1 e1) (C2 : NotThat (s ++ ⟨#[45]⟩) n v2 e2) (C3 : NotThat (⟨#[32]⟩ ++ s) n v3 e3) :
    Calls Tryd.prog 6 #[.int .i64 n, .int .u8 a, .int .u8 (cb.toNat : Int)] w fun e w' => e = .returned (.bool true) ∧ Below w.heap.size w w' := by
  have HT := Lib.hid hT
  clear hT
  have k2 : k < 11 := by omega
  have k0 : (0 : Int) ≤ k := by omega
  have k3 : (k : Int) ≤ 11 := by omega
  have k4 : (k : Int) + 1 ≤ 11 := by omega
  have k6 : 0 ≤ (k : Int) + 1 := by omega
  have k5 : ((k : Int) + 1).toNat = k + 1 := by omega
  have k7 : IntKind.i64.wrap ((k : Int) + 1) = (k : Int) + 1 := IntWalk.i64_in _ (by omega)
  have kc := conv_one cb
  go_enter Tryd.func6, Tryd.ntmps6
  go_wp2_with (first
    | (go_at_call 19; (with_reducible refine (T.out _ HT.out).mono ?_); rintro e w1 ⟨rfl, b1⟩; have H1 := Lib.hid (HT.out.keep b1)))
  go_region
  have HZ : Tab (w1.alloc (.cells #[.int .u8 (cb.toNat : Int)] 5)).drew := (H1.out.keep (((Below.refl _ w1).alloc (Nat.le_refl _) _).drew)).1
  have HZ := Lib.hid HZ
  go_wp2_with fail
  go_at_call 21
  with_reducible refine (R.out _ HZ.out).mono ?_
  rintro e' w2 ⟨rfl, b2⟩
  have B2 := Lib.hid b2
  clear b2
  go_wp2
  go_region
  have HF := Lib.hid ((four_in (w2.alloc (.cells #[.int .u8 (cb.toNat : Int)] 5)) (s.extract 0 k ++ s.extract (k + 1) 11) (s.extract 0 k ++ ⟨#[cb]⟩ ++ s.extract k 11) (s ++ ⟨#[45]⟩) (⟨#[32]⟩ ++ s) 9).keep ((Below.refl _ _).drew))
  have z1 : Below w.heap.size w w2 := b1.trans (Below.trans ((((Below.refl _ w1).alloc (Nat.le_refl _) (.cells #[.int .u8 (cb.toNat : Int)] 5)).drew).mono b1.size) (B2.out.mono (by have := b1.size; simp; omega)))
  have H4 := Lib.hid ((z1.alloc z1.size (.cells #[.int .u8 (cb.toNat : Int)] 5)))
  have H4 := Lib.hid ((H4.out.alloc H4.out.size (.cells #[.string (s.extract 0 k ++ s.extract (k + 1) 11), .string (s.extract 0 k ++ ⟨#[cb]⟩ ++ s.extract k 11), .string (s ++ ⟨#[45]⟩), .string (⟨#[32]⟩ ++ s)] 9)).drew)
  clear z1 b1 HZ k0 k3 k4 k5 k6 k7 kc he
  go_wp2
  go_loopw [92] (fun i wr => (i = .int .i64 0 ∧ Four (w2.heap.size + 1) (s.extract 0 k ++ s.extract (k + 1) 11) (s.extract 0 k ++ ⟨#[cb]⟩ ++ s.extract k 11) (s ++ ⟨#[45]⟩) (⟨#[32]⟩ ++ s) wr ∧ Below w.heap.size w wr) ∨ (i = .int .i64 1 ∧ Four (w2.heap.size + 1) (s.extract 0 k ++ s.extract (k + 1) 11) (s.extract 0 k ++ ⟨#[cb]⟩ ++ s.extract k 11) (s ++ ⟨#[45]⟩) (⟨#[32]⟩ ++ s) wr ∧ Below w.heap.size w wr) ∨ (i = .int .i64 2 ∧ Four (w2.heap.size + 1) (s.extract 0 k ++ s.extract (k + 1) 11) (s.extract 0 k ++ ⟨#[cb]⟩ ++ s.extract k 11) (s ++ ⟨#[45]⟩) (⟨#[32]⟩ ++ s) wr ∧ Below w.heap.size w wr) ∨ (i = .int .i64 3 ∧ Four (w2.heap.size + 1) (s.extract 0 k ++ s.extract (k + 1) 11) (s.extract 0 k ++ ⟨#[cb]⟩ ++ s.extract k 11) (s ++ ⟨#[45]⟩) (⟨#[32]⟩ ++ s) wr ∧ Below w.heap.size w wr) ∨ (i = .int .i64 4 ∧ Below w.heap.size w wr)) (fun i _ => (5 - intOf i).toNat)
  case atStart => exact .inl ⟨rfl, by simpa using HF.out, H4.out⟩
  case round =>
    clear HF H4
    rcases hrel with ⟨rfl, hF, hB⟩ | ⟨rfl, hF, hB⟩ | ⟨rfl, hF, hB⟩ | ⟨rfl, hF, hB⟩ | ⟨rfl, hB⟩
    · have HF := Lib.hid hF
      have H4 := Lib.hid hB
      have HTr := Lib.hid (HT.out.keep hB).1
      obtain ⟨c0, c1, c2, c3⟩ := hF
      clear hB
      have CC := Lib.hid C0.read.out
      rcases C0.ways with d | ⟨d, d'⟩
      · go_wp2_with (go_at_call 21; (with_reducible refine (CC.out _ HTr.out).mono ?_); rintro e w5 ⟨rfl, b5⟩; have H5 := Lib.hid (H4.out.trans (b5.mono H4.out.size)))
        all_goals go_roundw
        case rel => exact .inr (.inl ⟨rfl, HF.out.keep b5, H5.out⟩)
        case measure => simp [intOf]
      · subst d
        go_wp2_with (go_at_call 21; (with_reducible refine (CC.out _ HTr.out).mono ?_); rintro e w5 ⟨rfl, b5⟩; have H5 := Lib.hid (H4.out.trans (b5.mono H4.out.size)))
        all_goals go_roundw
        case rel => exact .inr (.inl ⟨rfl, HF.out.keep b5, H5.out⟩)
        case measure => simp [intOf]
    · have HF := Lib.hid hF
      have H4 := Lib.hid hB
      have HTr := Lib.hid (HT.out.keep hB).1
      obtain ⟨c0, c1, c2, c3⟩ := hF
      clear hB
      have CC := Lib.hid C1.read.out
      rcases C1.ways with d | ⟨d, d'⟩
      · go_wp2_with (go_at_call 21; (with_reducible refine (CC.out _ HTr.out).mono ?_); rintro e w5 ⟨rfl, b5⟩; have H5 := Lib.hid (H4.out.trans (b5.mono H4.out.size)))
        all_goals go_roundw
        case rel => exact .inr (.inr (.inl ⟨rfl, HF.out.keep b5, H5.out⟩))
        case measure => simp [intOf]
      · subst d
        go_wp2_with (go_at_call 21; (with_reducible refine (CC.out _ HTr.out).mono ?_); rintro e w5 ⟨rfl, b5⟩; have H5 := Lib.hid (H4.out.trans (b5.mono H4.out.size)))
        all_goals go_roundw
        case rel => exact .inr (.inr (.inl ⟨rfl, HF.out.keep b5, H5.out⟩))
        case measure => simp [intOf]
    · have HF := Lib.hid hF
      have H4 := Lib.hid hB
      have HTr := Lib.hid (HT.out.keep hB).1
      obtain ⟨c0, c1, c2, c3⟩ := hF
      clear hB
      have CC := Lib.hid C2.read.out
      rcases C2.ways with d | ⟨d, d'⟩
      · go_wp2_with (go_at_call 21; (with_reducible refine (CC.out _ HTr.out).mono ?_); rintro e w5 ⟨rfl, b5⟩; have H5 := Lib.hid (H4.out.trans (b5.mono H4.out.size)))
        all_goals go_roundw
        case rel => exact .inr (.inr (.inr (.inl ⟨rfl, HF.out.keep b5, H5.out⟩)))
        case measure => simp [intOf]
      · subst d
        go_wp2_with (go_at_call 21; (with_reducible refine (CC.out _ HTr.out).mono ?_); rintro e w5 ⟨rfl, b5⟩; have H5 := Lib.hid (H4.out.trans (b5.mono H4.out.size)))
        all_goals go_roundw
        case rel => exact .inr (.inr (.inr (.inl ⟨rfl, HF.out.keep b5, H5.out⟩)))
        case measure => simp [intOf]
    · have HF := Lib.hid hF
      have H4 := Lib.hid hB
      have HTr := Lib.hid (HT.out.keep hB).1
      obtain ⟨c0, c1, c2, c3⟩ := hF
      clear hB
      have CC := Lib.hid C3.read.out
      rcases C3.ways with d | ⟨d, d'⟩
      · go_wp2_with (go_at_call 21; (with_reducible refine (CC.out _ HTr.out).mono ?_); rintro e w5 ⟨rfl, b5⟩; have H5 := Lib.hid (H4.out.trans (b5.mono H4.out.size)))
        all_goals go_roundw
        case rel => exact .inr (.inr (.inr (.inr ⟨rfl, H5.out⟩)))
        case measure => simp [intOf]
      · subst d
        go_wp2_with (go_at_call 21; (with_reducible refine (CC.out _ HTr.out).mono ?_); rintro e w5 ⟨rfl, b5⟩; have H5 := Lib.hid (H4.out.trans (b5.mono H4.out.size)))
        all_goals go_roundw
        case rel => exact .inr (.inr (.inr (.inr ⟨rfl, H5.out⟩)))
        case measure => simp [intOf]
    · have H4 := Lib.hid hB
      have HTr := Lib.hid (HT.out.keep hB)
      clear hB
      go_wp2_with (go_at_call 8; (with_reducible refine (awake _ HTr.out).mono ?_); rintro e w7 ⟨rfl, b7⟩; have H7 := Lib.hid (H4.out.trans (b7.mono H4.out.size)))
      go_returns
      exact ⟨rfl, H7.out⟩
end Go.Proofs.YtmffagkgkbdkjaaDoor
