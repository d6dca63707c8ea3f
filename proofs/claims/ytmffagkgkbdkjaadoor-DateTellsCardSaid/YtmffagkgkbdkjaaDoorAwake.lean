/- awake: the chapter's examples. -/
import Derived.Test.YtmffagkgkbdkjaaDoorReadC
namespace Go.Proofs.YtmffagkgkbdkjaaDoor
set_option linter.unusedVariables false
open Go.ChangeShapes Go.WideShapes Go.ChangeAt Go.RowKit

theorem week_12784 (w : World) (hT : Tab w) : Calls Tryd.prog 9 #[.int .i64 12784] w fun e w' => e = .returned (.tuple #[.int .i64 2004, .int .i64 53, .int .i64 6, .int .i64 0]) ∧ w = w' := by
  rcases week_cases 12784 (by omega) (by omega) with ⟨Y, y1, y2, s1, s2, -, -, -, -, H⟩ | ⟨c, H⟩
  · have e : Cal.wd 12784 = 6 := by decide
    rw [e] at s1 s2
    have hY : Y = 2004 := by unfold Cal.start at s1 s2; omega
    subst hY
    have h := H.out w hT
    rw [e, show (12784 - Cal.op 2004) / 7 + 1 = 53 by decide] at h
    exact h
  · exact absurd (by decide) c
theorem weeks_12784 (w : World) (hT : Tab w) : Calls Tryd.prog 26 #[.int .i64 12784, .int .i64 2004, .int .i64 53, .int .i64 6] w fun e w' => e = .returned (.bool true) ∧ w = w' := by
  have O : ∀ w, Tab w → Calls Tryd.prog 11 #[.int .i64 2004, .int .i64 53, .int .i64 6] w fun e w' => e = .returned (.tuple #[.int .i64 12784, .int .i64 0]) ∧ w = w' :=
    fun w hT => ofweek_ok 2004 53 6 w hT (by decide) (by decide) (by decide) (by decide) (by decide) (by decide)
  have O := Lib.hid O
  have HT := Lib.hid hT
  clear hT
  go_enter Tryd.func26, Tryd.ntmps26
  go_wp2_with (first
    | (go_at_call 9; (with_reducible refine (week_12784 _ HT.out).mono ?_); rintro e w' ⟨rfl, rfl⟩)
    | (go_at_call 11; (with_reducible refine (O.out _ HT.out).mono ?_); rintro e w' ⟨rfl, rfl⟩))
  go_returns
  exact ⟨rfl, rfl⟩

theorem week_14242 (w : World) (hT : Tab w) : Calls Tryd.prog 9 #[.int .i64 14242] w fun e w' => e = .returned (.tuple #[.int .i64 2009, .int .i64 1, .int .i64 1, .int .i64 0]) ∧ w = w' := by
  rcases week_cases 14242 (by omega) (by omega) with ⟨Y, y1, y2, s1, s2, -, -, -, -, H⟩ | ⟨c, H⟩
  · have e : Cal.wd 14242 = 1 := by decide
    rw [e] at s1 s2
    have hY : Y = 2009 := by unfold Cal.start at s1 s2; omega
    subst hY
    have h := H.out w hT
    rw [e, show (14242 - Cal.op 2009) / 7 + 1 = 1 by decide] at h
    exact h
  · exact absurd (by decide) c
theorem weeks_14242 (w : World) (hT : Tab w) : Calls Tryd.prog 26 #[.int .i64 14242, .int .i64 2009, .int .i64 1, .int .i64 1] w fun e w' => e = .returned (.bool true) ∧ w = w' := by
  have O : ∀ w, Tab w → Calls Tryd.prog 11 #[.int .i64 2009, .int .i64 1, .int .i64 1] w fun e w' => e = .returned (.tuple #[.int .i64 14242, .int .i64 0]) ∧ w = w' :=
    fun w hT => ofweek_ok 2009 1 1 w hT (by decide) (by decide) (by decide) (by decide) (by decide) (by decide)
  have O := Lib.hid O
  have HT := Lib.hid hT
  clear hT
  go_enter Tryd.func26, Tryd.ntmps26
  go_wp2_with (first
    | (go_at_call 9; (with_reducible refine (week_14242 _ HT.out).mono ?_); rintro e w' ⟨rfl, rfl⟩)
    | (go_at_call 11; (with_reducible refine (O.out _ HT.out).mono ?_); rintro e w' ⟨rfl, rfl⟩))
  go_returns
  exact ⟨rfl, rfl⟩

theorem reads_c4 (w : World) (hT : Tab w) : Calls Tryd.prog 27 #[.string ⟨#[50, 48, 48, 52, 45, 87, 53, 51, 45, 54]⟩, .int .i64 12784] w fun e w' => e = .returned (.bool true) ∧ Below w.heap.size w w' := by
  have HT := Lib.hid hT
  clear hT
  go_enter Tryd.func27, Tryd.ntmps27
  go_wp2_with (go_at_call 21; (with_reducible refine (read_c4 _ HT.out).mono ?_); rintro e w' ⟨rfl, b1⟩)
  go_returns
  exact ⟨rfl, b1⟩

theorem reads_c5 (w : World) (hT : Tab w) : Calls Tryd.prog 27 #[.string ⟨#[50, 48, 48, 48, 45, 51, 54, 54]⟩, .int .i64 11322] w fun e w' => e = .returned (.bool true) ∧ Below w.heap.size w w' := by
  have HT := Lib.hid hT
  clear hT
  go_enter Tryd.func27, Tryd.ntmps27
  go_wp2_with (go_at_call 21; (with_reducible refine (read_c5 _ HT.out).mono ?_); rintro e w' ⟨rfl, b1⟩)
  go_returns
  exact ⟨rfl, b1⟩

theorem text_0 (w : World) (hT : Tabs w) : Calls Tryd.prog 19 #[.int .i64 0] w fun e w' => e = .returned (.tuple #[.string ⟨#[49, 57, 55, 48, 45, 48, 49, 45, 48, 49]⟩, .int .i64 0]) ∧ Below w.heap.size w w' := by
  have v : Cal.Valid ((1970 : Nat) : Int) ((1 : Nat) : Int) ((1 : Nat) : Int) := ⟨by decide, by decide, by decide, by decide⟩
  have h := text_pos 1970 1 1 w hT v (by omega) (by omega)
  rw [show Cal.num ((1970 : Nat) : Int) ((1 : Nat) : Int) ((1 : Nat) : Int) = 0 by decide] at h
  exact h
theorem text_1 (w : World) (hT : Tabs w) : Calls Tryd.prog 19 #[.int .i64 (-719529)] w fun e w' => e = .returned (.tuple #[.string ⟨#[45, 48, 48, 48, 49, 45, 49, 50, 45, 51, 49]⟩, .int .i64 0]) ∧ Below w.heap.size w w' := by
  have v : Cal.Valid (-1) ((12 : Nat) : Int) ((31 : Nat) : Int) := ⟨by decide, by decide, by decide, by decide⟩
  have h := text_neg (-1) 1 12 31 (by decide) w hT v (by omega) (by omega) (by omega)
  rw [show Cal.num (-1) ((12 : Nat) : Int) ((31 : Nat) : Int) = -719529 by decide] at h
  exact h
theorem nth_0 (w : World) (hT : Tab w) : Calls Tryd.prog 15 #[.int .i64 11322] w fun e w' => e = .returned (.tuple #[.int .i64 2000, .int .i64 366, .int .i64 0]) ∧ w = w' := by
  have v : Cal.Valid 2000 12 31 := ⟨by decide, by decide, by decide, by decide⟩
  have h := nth_ok 2000 12 31 w hT v
  rw [show Cal.num 2000 12 31 = 11322 by decide, show (11322 : Int) - Cal.start 2000 + 1 = 366 by decide] at h
  exact h
theorem weeks_2004 (w : World) (hT : Tab w) : Calls Tryd.prog 13 #[.int .i64 2004] w fun e w' => e = .returned (.int .i64 53) ∧ w = w' := weeks_any 2004 w hT
theorem weeks_2005 (w : World) (hT : Tab w) : Calls Tryd.prog 13 #[.int .i64 2005] w fun e w' => e = .returned (.int .i64 52) ∧ w = w' := weeks_any 2005 w hT
structure Bads (B : Nat) (w : World) : Prop where
  c0 : w.cell? ⟨B, 0, none⟩ = some (.string ⟨#[50, 48, 48, 49, 45, 51, 54, 54]⟩)
  c1 : w.cell? ⟨B, 1, none⟩ = some (.string ⟨#[50, 48, 48, 48, 45, 50, 45, 50, 57]⟩)
  c2 : w.cell? ⟨B, 2, none⟩ = some (.string ⟨#[45, 48, 48, 48, 48, 45, 48, 49, 45, 48, 49]⟩)
theorem Bads.keep {B : Nat} {w w' : World} (h : Bads B w) (b : Below w.heap.size w w') : Bads B w' := ⟨cell_keep h.c0 b, cell_keep h.c1 b, cell_keep h.c2 b⟩
theorem bads_in (w : World) (t : TypeId) : Bads w.heap.size (w.alloc (.cells #[.string ⟨#[50, 48, 48, 49, 45, 51, 54, 54]⟩, .string ⟨#[50, 48, 48, 48, 45, 50, 45, 50, 57]⟩, .string ⟨#[45, 48, 48, 48, 48, 45, 48, 49, 45, 48, 49]⟩] t)) := by
  have h : (w.alloc (.cells #[.string ⟨#[50, 48, 48, 49, 45, 51, 54, 54]⟩, .string ⟨#[50, 48, 48, 48, 45, 50, 45, 50, 57]⟩, .string ⟨#[45, 48, 48, 48, 48, 45, 48, 49, 45, 48, 49]⟩] t)).heap[w.heap.size]? = some (.cells #[.string ⟨#[50, 48, 48, 49, 45, 51, 54, 54]⟩, .string ⟨#[50, 48, 48, 48, 45, 50, 45, 50, 57]⟩, .string ⟨#[45, 48, 48, 48, 48, 45, 48, 49, 45, 48, 49]⟩] t) := by
    show (w.heap.push _)[w.heap.size]? = _
    simp
  constructor <;> (unfold World.cell?; rw [h]; rfl)

set_option maxHeartbeats 4000000 in
theorem awake (w : World) (hT : Tabs w) : Calls Tryd.prog 8 #[] w fun e w' => e = .returned (.bool true) ∧ Below w.heap.size w w' := by
  have HT := Lib.hid hT
  have HB := Lib.hid hT.1
  clear hT
  go_enter Tryd.func8, Tryd.ntmps8
  go_wp2_with (first
    | (go_at_call 15; (with_reducible refine (nth_0 _ HB.out).mono ?_); rintro e w' ⟨rfl, rfl⟩)
    | (go_at_call 19; (with_reducible refine (text_0 _ HT.out).mono ?_); rintro e w1 ⟨rfl, b1⟩; have HT1 := Lib.hid (HT.out.keep b1))
    | (go_at_call 19; (with_reducible refine (text_1 _ HT1.out).mono ?_); rintro e w2 ⟨rfl, b2⟩))
  have b3 := b1.trans (b2.mono b1.size)
  have HF := Lib.hid (bads_in w2 9)
  have b4 := b3.trans (((Below.refl _ w2).alloc (Nat.le_refl _) (.cells #[.string ⟨#[50, 48, 48, 49, 45, 51, 54, 54]⟩, .string ⟨#[50, 48, 48, 48, 45, 50, 45, 50, 57]⟩, .string ⟨#[45, 48, 48, 48, 48, 45, 48, 49, 45, 48, 49]⟩] 9)).mono b3.size)
  have H4 := Lib.hid b4
  clear b1 b2 b3 b4
  go_loopw [27] (fun i wr => (i = .int .i64 0 ∧ Bads w2.heap.size wr ∧ Below w.heap.size w wr) ∨ (i = .int .i64 1 ∧ Bads w2.heap.size wr ∧ Below w.heap.size w wr) ∨ (i = .int .i64 2 ∧ Bads w2.heap.size wr ∧ Below w.heap.size w wr) ∨ (i = .int .i64 3 ∧ Bads w2.heap.size wr ∧ Below w.heap.size w wr)) (fun i _ => (4 - intOf i).toNat)
  case atStart => exact .inl ⟨rfl, HF.out, H4.out⟩
  case round =>
    clear HF H4
    rcases hrel with ⟨rfl, hF, hB⟩ | ⟨rfl, hF, hB⟩ | ⟨rfl, hF, hB⟩ | ⟨rfl, hF, hB⟩
    · have HF := Lib.hid hF
      have H4 := Lib.hid hB
      have HTr := Lib.hid (HB.out.keep hB)
      obtain ⟨c0, c1, c2⟩ := hF
      clear hB
      go_wp2_with (go_at_call 21; (with_reducible refine (read_c1 _ HTr.out).mono ?_); rintro e w5 ⟨rfl, b5⟩; have H5 := Lib.hid (H4.out.trans (b5.mono H4.out.size)))
      all_goals go_roundw
      case rel => exact .inr (.inl ⟨rfl, HF.out.keep b5, H5.out⟩)
      case measure => simp [intOf]
    · have HF := Lib.hid hF
      have H4 := Lib.hid hB
      have HTr := Lib.hid (HB.out.keep hB)
      obtain ⟨c0, c1, c2⟩ := hF
      clear hB
      go_wp2_with (go_at_call 21; (with_reducible refine (read_c2 _ HTr.out).mono ?_); rintro e w5 ⟨rfl, b5⟩; have H5 := Lib.hid (H4.out.trans (b5.mono H4.out.size)))
      all_goals go_roundw
      case rel => exact .inr (.inr (.inl ⟨rfl, HF.out.keep b5, H5.out⟩))
      case measure => simp [intOf]
    · have HF := Lib.hid hF
      have H4 := Lib.hid hB
      have HTr := Lib.hid (HB.out.keep hB)
      obtain ⟨c0, c1, c2⟩ := hF
      clear hB
      go_wp2_with (go_at_call 21; (with_reducible refine (read_c3 _).mono ?_); rintro e w5 ⟨rfl, b5⟩; have H5 := Lib.hid (H4.out.trans (b5.mono H4.out.size)))
      all_goals go_roundw
      case rel => exact .inr (.inr (.inr (⟨rfl, HF.out.keep b5, H5.out⟩)))
      case measure => simp [intOf]
    · have H4 := Lib.hid hB
      have HTr := Lib.hid (HB.out.keep hB)
      clear hB hF
      go_wp2_with (first
        | (go_at_call 26; (with_reducible refine (weeks_12784 _ HTr.out).mono ?_); rintro e w' ⟨rfl, rfl⟩)
        | (go_at_call 26; (with_reducible refine (weeks_14242 _ HTr.out).mono ?_); rintro e w' ⟨rfl, rfl⟩)
        | (go_at_call 13; (with_reducible refine (weeks_2004 _ HTr.out).mono ?_); rintro e w' ⟨rfl, rfl⟩)
        | (go_at_call 13; (with_reducible refine (weeks_2005 _ HTr.out).mono ?_); rintro e w' ⟨rfl, rfl⟩)
        | (go_at_call 27; (with_reducible refine (reads_c4 _ HTr.out).mono ?_); rintro e w6 ⟨rfl, b6⟩; have H6 := Lib.hid (H4.out.trans (b6.mono H4.out.size)); have HT6 := Lib.hid (HB.out.keep H6.out))
        | (go_at_call 27; (with_reducible refine (reads_c5 _ HT6.out).mono ?_); rintro e w7 ⟨rfl, b7⟩; have H7 := Lib.hid (H6.out.trans (b7.mono H6.out.size))))
      go_returns
      exact ⟨rfl, H7.out⟩
end Go.Proofs.YtmffagkgkbdkjaaDoor
