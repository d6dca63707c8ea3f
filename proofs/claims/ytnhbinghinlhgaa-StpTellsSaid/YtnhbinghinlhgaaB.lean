/- Contracts: Right of a network, and what it calls. -/
import Derived.Test.YtnhbinghinlhgaaA
namespace Go.Proofs.Ytnhbinghinlhgaa
set_option linter.unusedVariables false
set_option linter.unusedSimpArgs false
open Go.ChangeShapes Go.WideShapes Go.ChangeAt Go.RowKit

/-- A bound that may stand in a network. -/
abbrev Fit (b : Bd) : Prop := Bd.within 1125899906842624 b
theorem allowed_enc (b : Bd) (h : Fit b) (w : World) :
    Calls Try.prog 25 #[.agg #[.int .i8 (infOf b), .int .i64 (numOf b)]] w fun e w' => e = .returned (.bool true) ∧ Below w.heap.size w w' :=
  allowed_yes _ _ (right_enc b) (by cases b <;> simp [infOf]) (by cases b <;> simp [numOf, Bd.within] at * <;> omega) (by cases b <;> simp [numOf, Bd.within] at * <;> omega) w
theorem wrong_enc (b : Bd) (h : Fit b) (w : World) :
    Calls Try.prog 24 #[.agg #[.int .i8 (infOf b), .int .i64 (numOf b)]] w fun e w' => e = .returned (.bool false) ∧ Below w.heap.size w w' := by
  have A := Lib.hid (allowed_enc b h)
  clear h
  generalize infOf b = i at *
  generalize numOf b = n at *
  go_enter Try.func24, Try.ntmps24
  go_wp2_with (go_at_call 25; (with_reducible refine (A.out _).mono ?_); rintro e w1 ⟨rfl, b1⟩)
  go_returns
  exact ⟨rfl, ((Below.refl _ w).alloc (Nat.le_refl _) _).trans (b1.mono (by simp))⟩

/-- A row of bounds. -/
structure RowAt (w : World) (b p n : Nat) (r : Nat → Bd) : Prop where
  inf : ∀ j, j < n → w.cell? ⟨b, p + j * 2, none⟩ = some (.int .i8 (infOf (r j)))
  num : ∀ j, j < n → w.cell? ⟨b, p + j * 2 + 1, none⟩ = some (.int .i64 (numOf (r j)))
theorem cell_keep {w w' : World} {a : Addr} {v : Value} (h : w.cell? a = some v) (b : Below w.heap.size w w') : w'.cell? a = some v := by
  have hlt : a.block < w.heap.size := by
    rcases Nat.lt_or_ge a.block w.heap.size with h' | h'
    · exact h'
    · unfold World.cell? at h
      rw [Array.getElem?_eq_none h'] at h; simp at h
  rw [← h]
  unfold World.cell?
  rw [b.block a.block hlt]
theorem RowAt.keep {w w' : World} {b p n : Nat} {r : Nat → Bd} (h : RowAt w b p n r) (k : Below w.heap.size w w') : RowAt w' b p n r :=
  ⟨fun j hj => cell_keep (h.inf j hj) k, fun j hj => cell_keep (h.num j hj) k⟩

set_option maxHeartbeats 1000000 in
theorem index_none (b p n c : Nat) (r : Nat → Bd) (hn : n ≤ 24) (hc : n ≤ c) (hc' : c ≤ 9223372036854775807) (hr : ∀ j, j < n → Fit (r j)) (w : World) (hw : RowAt w b p n r) :
    Calls Try.prog 34 #[.slice (some ⟨b, p, none⟩) n c, .func (.func 24) #[] #[]] w fun e w' => e = .returned (.int .i64 (-1)) ∧ Below w.heap.size w w' := by
  have HR := Lib.hid hr
  have HW := Lib.hid hw
  clear hr hw
  go_enter Try.func34, Try.ntmps34
  go_wp2
  go_loopw [8] (fun i wr => ∃ k : Nat, k ≤ n ∧ i = .int .i64 k ∧ Hid (Below w.heap.size w wr)) (fun i _ => n - (intOf i).toNat)
  case atStart => exact ⟨0, Nat.zero_le _, rfl, Lib.hid (Below.refl _ _)⟩
  case round =>
    obtain ⟨k, hk, rfl, HB⟩ := hrel
    by_cases hlt : k < n
    · have c1 := (HW.out.keep HB.out).inf k hlt
      have c2 := (HW.out.keep HB.out).num k hlt
      have A := Lib.hid (wrong_enc (r k) (HR.out k hlt))
      generalize infOf (r k) = x at *
      generalize numOf (r k) = y at *
      go_wp2_with (go_at_call 24; (with_reducible refine (A.out _).mono ?_); rintro e w1 ⟨rfl, b1⟩; have HB1 := Lib.hid (HB.out.trans (b1.mono HB.out.size)); clear b1)
      go_roundw
      case rel => exact ⟨k + 1, by omega, by go_num, HB1⟩
      case measure => simp [intOf]; omega
    · go_wp2
      go_returns
      exact ⟨rfl, HB.out⟩

theorem contains_none (b p n c : Nat) (r : Nat → Bd) (hn : n ≤ 24) (hc : n ≤ c) (hc' : c ≤ 9223372036854775807) (hr : ∀ j, j < n → Fit (r j)) (w : World) (hw : RowAt w b p n r) :
    Calls Try.prog 26 #[.slice (some ⟨b, p, none⟩) n c, .func (.func 24) #[] #[]] w fun e w' => e = .returned (.bool false) ∧ Below w.heap.size w w' := by
  have I := Lib.hid (index_none b p n c r hn hc hc' hr w hw)
  clear hr hw
  go_enter Try.func26, Try.ntmps26
  go_wp2_with (go_at_call 34; (with_reducible refine (I.out).mono ?_); rintro e w1 ⟨rfl, b1⟩)
  go_returns
  exact ⟨rfl, b1⟩

/-- A network in memory: rows of bounds. -/
structure NetAt (w : World) (g o n : Nat) (b p c : Nat → Nat) (M : Mat) : Prop where
  row : ∀ i, i < n → w.cell? ⟨g, o + i, none⟩ = some (.slice (some ⟨b i, p i, none⟩) n (c i))
  cap : ∀ i, i < n → n ≤ c i ∧ c i ≤ 9223372036854775807
  cells : ∀ i, i < n → RowAt w (b i) (p i) n (M i)
theorem NetAt.keep {w w' : World} {g o n : Nat} {b p c : Nat → Nat} {M : Mat} (h : NetAt w g o n b p c M) (k : Below w.heap.size w w') : NetAt w' g o n b p c M :=
  ⟨fun i hi => cell_keep (h.row i hi) k, h.cap, fun i hi => (h.cells i hi).keep k⟩
abbrev Fits (n : Nat) (M : Mat) : Prop := ∀ i j, i < n → j < n → Fit (M i j)

set_option maxHeartbeats 1000000 in
theorem right_net (g o n k : Nat) (b p c : Nat → Nat) (M : Mat) (hn : n ≤ 24) (hk : n ≤ k) (hk' : k ≤ 9223372036854775807) (hM : Fits n M) (w : World) (hw : NetAt w g o n b p c M) :
    Calls Try.prog 11 #[.slice (some ⟨g, o, none⟩) n k] w fun e w' => e = .returned (.bool true) ∧ Below w.heap.size w w' := by
  have HM := Lib.hid hM
  have HW := Lib.hid hw
  have t1 : ¬ (24 : Int) < (n : Int) := by omega
  clear hM hw
  go_enter Try.func11, Try.ntmps11
  go_wp2
  go_loopw [11] (fun i wr => ∃ k : Nat, k ≤ n ∧ i = .int .i64 k ∧ Hid (Below w.heap.size w wr)) (fun i _ => n - (intOf i).toNat)
  case atStart => exact ⟨0, Nat.zero_le _, rfl, Lib.hid (Below.refl _ _)⟩
  case round =>
    obtain ⟨i, hi, rfl, HB⟩ := hrel
    by_cases hlt : i < n
    · have HR := Lib.hid (HW.out.keep HB.out)
      have c1 := HR.out.row i hlt
      have hc := HR.out.cap i hlt
      have C := Lib.hid (contains_none (b i) (p i) n (c i) (M i) hn hc.1 hc.2 (fun j hj => HM.out i j hlt hj) wr (HR.out.cells i hlt))
      have t2 : ((n : Int) != (n : Int)) = false := by simp
      clear hc
      generalize b i = bi at *
      generalize p i = pi at *
      generalize c i = ci at *
      go_wp2_with (go_at_call 26; (with_reducible refine (C.out).mono ?_); rintro e w1 ⟨rfl, b1⟩; have HB1 := Lib.hid (HB.out.trans (b1.mono HB.out.size)); clear b1)
      go_roundw
      case rel => exact ⟨i + 1, by omega, by go_num, HB1⟩
      case measure => simp [intOf]; omega
    · go_wp2
      go_returns
      exact ⟨rfl, HB.out⟩
end Go.Proofs.Ytnhbinghinlhgaa
