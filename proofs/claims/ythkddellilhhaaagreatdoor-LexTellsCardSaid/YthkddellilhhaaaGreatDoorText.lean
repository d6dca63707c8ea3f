/- The text of a date. -/
import Derived.Test.YthkddellilhhaaaGreatDoorPad
namespace Go.Proofs.YthkddellilhhaaaGreatDoor
set_option linter.unusedVariables false
open Go.ChangeShapes Go.WideShapes Go.ChangeAt Go.RowKit

/-- The tables that are read: the days ahead of a month, the powers of ten. -/
def Tabs (w : World) : Prop := Tab w ∧ Lib.TabIs Tryz.prog w "internal/strconv.uint64pow10" .u64 Lib.pow10Tab

theorem Tab.keep {w w' : World} (h : Tab w) (b : Below w.heap.size w w') : Tab w' := by
  intro i hi
  have hc := h i hi
  have hlt : 0 < w.heap.size := by
    rcases Nat.eq_zero_or_pos w.heap.size with h0 | h0
    · unfold World.cell? at hc
      rw [Array.getElem?_eq_none (by show w.heap.size ≤ 0; omega)] at hc
      simp at hc
    · exact h0
  rw [← hc]
  unfold World.cell?
  rw [b.block 0 hlt]
theorem Tabs.keep {w w' : World} (h : Tabs w) (b : Below w.heap.size w w') : Tabs w' := by
  refine ⟨h.1.keep b, ?_⟩
  have h2 := h.2
  unfold Lib.TabIs World.var? at *
  cases hg : Tryz.prog.globalNamed "internal/strconv.uint64pow10" with
  | none => simp [hg] at h2
  | some g =>
    simp only [hg, Option.bind_some] at h2 ⊢
    have hlt : g < w.heap.size := by
      rcases Nat.lt_or_ge g w.heap.size with h' | h'
      · exact h'
      · rw [Array.getElem?_eq_none h'] at h2; simp at h2
    rw [b.block g hlt]
    exact h2
theorem grow_below (w : World) (k : Nat) (os : Array Obj) : Below w.heap.size w (Sort.grow (w.drewN k) os) :=
  ⟨rfl, rfl, rfl, by show w.heap.size ≤ (w.heap ++ os).size; simp, fun j hj => by show (w.heap ++ os)[j]? = _; rw [Array.getElem?_append_left hj]⟩
theorem drewN_below (w : World) (k : Nat) : Below w.heap.size w (w.drewN k) := ⟨rfl, rfl, rfl, Nat.le_refl _, fun _ _ => rfl⟩

theorem itoa_at (n : Nat) (w : World) (h : n < 10000) (hT : Tabs w) :
    Calls Tryz.prog 55 #[.int .i64 n] w fun e w' => e = .returned (.string ⟨(Lib.decDigits n).toArray⟩) ∧ Below w.heap.size w w' :=
  (Tryz.strconv_Itoa n (by omega) (by omega) w hT.2).mono fun e w' ⟨he, k, os, hw⟩ => ⟨by rw [he, Lib.itoa_nonneg], hw ▸ grow_below w k os⟩
theorem itoa_small (n : Nat) (w : World) (h : n < 100) :
    Calls Tryz.prog 55 #[.int .i64 n] w fun e w' => e = .returned (.string ⟨(Lib.decDigits n).toArray⟩) ∧ Below w.heap.size w w' :=
  (Tryz.strconv_Itoa_small n h w).mono fun e w' ⟨he, hw⟩ => ⟨he, hw ▸ Below.refl _ _⟩

namespace Cal
/-- A digit, as a byte. -/
def dg (n : Nat) : UInt8 := UInt8.ofNat (48 + n)
end Cal
open Cal (dg)
theorem dec3 {n : Nat} (h1 : 100 ≤ n) (h2 : n < 1000) : Lib.decDigits n = [dg (n / 100), dg (n / 10 % 10), dg (n % 10)] := by
  rw [Lib.decDigits, dif_neg (by omega), Lib.decDigits_two (by omega) (by omega), Nat.div_div_eq_div_mul]
  rfl
theorem dec4 {n : Nat} (h1 : 1000 ≤ n) (h2 : n < 10000) : Lib.decDigits n = [dg (n / 1000), dg (n / 100 % 10), dg (n / 10 % 10), dg (n % 10)] := by
  rw [Lib.decDigits, dif_neg (by omega), dec3 (by omega) (by omega), Nat.div_div_eq_div_mul, Nat.div_div_eq_div_mul]
  rfl
theorem dg0 : dg 0 = 48 := rfl

theorem pad2 (n : Nat) (w : World) (h : n < 100) :
    Calls Tryz.prog 37 #[.int .i64 n, .int .i64 2] w fun e w' => e = .returned (.string ⟨#[dg (n / 10), dg (n % 10)]⟩) ∧ Below w.heap.size w w' := by
  have I := itoa_small n w h
  by_cases c : n < 10
  · rw [Lib.decDigits_one c] at I
    rw [show n / 10 = 0 by omega, show n % 10 = n by omega]
    exact padded_2_1 n (dg n) w (Lib.hid I)
  · rw [Lib.decDigits_two c h] at I
    exact padded_2_2 n (dg (n / 10)) (dg (n % 10)) w (Lib.hid I)
theorem pad4 (n : Nat) (w : World) (h : n < 10000) (hT : Tabs w) :
    Calls Tryz.prog 37 #[.int .i64 n, .int .i64 4] w fun e w' => e = .returned (.string ⟨#[dg (n / 1000), dg (n / 100 % 10), dg (n / 10 % 10), dg (n % 10)]⟩) ∧ Below w.heap.size w w' := by
  have I := itoa_at n w h hT
  by_cases c : n < 10
  · rw [Lib.decDigits_one c] at I
    rw [show n / 1000 = 0 by omega, show n / 100 % 10 = 0 by omega, show n / 10 % 10 = 0 by omega, show n % 10 = n by omega]
    exact padded_4_1 n (dg n) w (Lib.hid I)
  · by_cases c2 : n < 100
    · rw [Lib.decDigits_two c c2] at I
      rw [show n / 1000 = 0 by omega, show n / 100 % 10 = 0 by omega, show n / 10 % 10 = n / 10 by omega]
      exact padded_4_2 n (dg (n / 10)) (dg (n % 10)) w (Lib.hid I)
    · by_cases c3 : n < 1000
      · rw [dec3 (by omega) c3] at I
        rw [show n / 1000 = 0 by omega, show n / 100 % 10 = n / 100 by omega]
        exact padded_4_3 n (dg (n / 100)) (dg (n / 10 % 10)) (dg (n % 10)) w (Lib.hid I)
      · rw [dec4 (by omega) h] at I
        exact padded_4_4 n _ _ _ _ w (Lib.hid I)

theorem text_pos (y m d : Nat) (w : World) (hT : Tabs w) (v : Cal.Valid y m d) (hm : m < 100) (hd : d < 100) :
    Calls Tryz.prog 18 #[.int .i64 (Cal.num y m d)] w fun e w' => e = .returned (.tuple #[.string ⟨#[dg (y / 1000), dg (y / 100 % 10), dg (y / 10 % 10), dg (y % 10), 45, dg (m / 10), dg (m % 10), 45, dg (d / 10), dg (d % 10)]⟩, .int .i64 0]) ∧ Below w.heap.size w w' := by
  have y2 := v.y2
  have D := Lib.hid (fun w hT => date_num y m d w hT v)
  have P4 := Lib.hid (fun w hT => pad4 y w (by omega) hT)
  have PM := Lib.hid (fun w => pad2 m w hm)
  have PD := Lib.hid (fun w => pad2 d w hd)
  have HT := Lib.hid hT
  have HB := Lib.hid hT.1
  generalize Cal.num y m d = n at *
  clear hT v
  go_enter Tryz.func18, Tryz.ntmps18
  go_wp2_with (first
    | (go_at_call 36; (with_reducible refine (D.out _ HB.out).mono ?_); rintro e w' ⟨rfl, rfl⟩)
    | (go_at_call 37; (with_reducible refine (P4.out _ HT.out).mono ?_); rintro e w1 ⟨rfl, b1⟩)
    | (go_at_call 37; (with_reducible refine (PM.out _).mono ?_); rintro e w2 ⟨rfl, b2⟩)
    | (go_at_call 37; (with_reducible refine (PD.out _).mono ?_); rintro e w3 ⟨rfl, b3⟩))
  go_returns
  exact ⟨rfl, (b1.trans (b2.mono b1.size)).trans (b3.mono (Nat.le_trans b1.size b2.size))⟩
theorem text_neg (z : Int) (y m d : Nat) (hz : z = -(y : Int)) (w : World) (hT : Tabs w) (v : Cal.Valid z m d) (hy : 1 ≤ y) (hm : m < 100) (hd : d < 100) :
    Calls Tryz.prog 18 #[.int .i64 (Cal.num z m d)] w fun e w' => e = .returned (.tuple #[.string ⟨#[45, dg (y / 1000), dg (y / 100 % 10), dg (y / 10 % 10), dg (y % 10), 45, dg (m / 10), dg (m % 10), 45, dg (d / 10), dg (d % 10)]⟩, .int .i64 0]) ∧ Below w.heap.size w w' := by
  have y2 := v.y1
  have D := Lib.hid (fun w hT => date_num z m d w hT v)
  have P4 := fun w hT => pad4 y w (by omega) hT
  rw [show (y : Int) = -z by omega] at P4
  have P4 := Lib.hid P4
  have PM := Lib.hid (fun w => pad2 m w hm)
  have PD := Lib.hid (fun w => pad2 d w hd)
  have HT := Lib.hid hT
  have HB := Lib.hid hT.1
  have z1 : z < 0 := by omega
  generalize Cal.num z m d = n at *
  clear hT v hz hy
  go_enter Tryz.func18, Tryz.ntmps18
  go_wp2_with (first
    | (go_at_call 36; (with_reducible refine (D.out _ HB.out).mono ?_); rintro e w' ⟨rfl, rfl⟩)
    | (go_at_call 37; (with_reducible refine (P4.out _ HT.out).mono ?_); rintro e w1 ⟨rfl, b1⟩)
    | (go_at_call 37; (with_reducible refine (PM.out _).mono ?_); rintro e w2 ⟨rfl, b2⟩)
    | (go_at_call 37; (with_reducible refine (PD.out _).mono ?_); rintro e w3 ⟨rfl, b3⟩))
  go_returns
  exact ⟨rfl, (b1.trans (b2.mono b1.size)).trans (b3.mono (Nat.le_trans b1.size b2.size))⟩

theorem text_no (n : Int) (w : World) (h : ¬ (-4371587 ≤ n ∧ n < 2932897)) :
    Calls Tryz.prog 18 #[.int .i64 n] w fun e w' => e = .returned (.tuple #[.string ⟨#[]⟩, .int .i64 30]) ∧ w = w' := by
  have D := Lib.hid (fun w => date_err n w h)
  clear h
  go_enter Tryz.func18, Tryz.ntmps18
  go_wp2_with (go_at_call 36; (with_reducible refine (D.out _).mono ?_); rintro e w' ⟨rfl, rfl⟩)
  go_returns
  exact ⟨rfl, rfl⟩
end Go.Proofs.YthkddellilhhaaaGreatDoor
