/- A slice of int; contract: slices.BinarySearch. -/
import Derived.Test.YtacpcokmgahjaaaDoorG9
namespace Go.Proofs.YtacpcokmgahjaaaDoor
set_option linter.unusedVariables false
set_option linter.unusedSimpArgs false
open Go.ChangeShapes Go.WideShapes Go.ChangeAt Go.RowKit
/-- A slice of int. -/
structure InAt (w : World) (ao : Option Addr) (n c : Nat) (l : List Nat) : Prop where
  len : l.length = n
  le : n ≤ c
  top : c ≤ 9223372036854775807
  bare : ao = none → n = 0 ∧ c = 0
  here : 0 < n → ∃ b p, ao = some ⟨b, p, none⟩ ∧ ∀ i (h : i < l.length), w.cell? ⟨b, p + i, none⟩ = some (.int .i64 (l[i] : Nat))
theorem InAt.keep {w w' : World} {ao : Option Addr} {n c : Nat} {l : List Nat} (h : InAt w ao n c l) (k : Below w.heap.size w w') : InAt w' ao n c l :=
  ⟨h.len, h.le, h.top, h.bare, fun h0 => by
    obtain ⟨b, p, e, hc⟩ := h.here h0
    exact ⟨b, p, e, fun i hi => cell_keep (hc i hi) k⟩⟩
/-- Where a number is in a rising list, or would be. -/
structure NIs (l : List Nat) (t i : Nat) : Prop where
  low : ∀ j (h : j < l.length), j < i → l[j] < t
  high : ∀ j (h : j < l.length), i ≤ j → t ≤ l[j]
theorem ninc_at {l : List Nat} (h : l.Pairwise (· < ·)) (i j : Nat) (hi : i < l.length) (hj : j < l.length) (q : i < j) : l[i] < l[j] := List.pairwise_iff_getElem.1 h i j hi hj q
theorem ninc_le {l : List Nat} (h : l.Pairwise (· < ·)) (i j : Nat) (hi : i < l.length) (hj : j < l.length) (q : i ≤ j) : l[i] ≤ l[j] := by
  by_cases e : i = j
  · subst e; exact Nat.le_refl _
  · have := ninc_at h i j hi hj (by omega); omega
/-- What a search tells. -/
def BsOut (l : List Nat) (t n : Nat) (e : Ending) : Prop := ∃ (i : Nat) (f : Bool), i ≤ n ∧ e = .returned (.tuple #[.int .i64 i, .bool f]) ∧ Hid (NIs l t i) ∧ Hid (f = true ↔ ∃ h : i < l.length, l[i] = t)
set_option maxHeartbeats 1000000 in
theorem bs_any (ao : Option Addr) (n c : Nat) (l : List Nat) (t : Nat) (w : World) (ha : InAt w ao n c l) (hs : l.Pairwise (· < ·)) (hn : n ≤ 1099511627776) :
    Calls Tryd.prog 118 #[.slice ao n c, .int .i64 t] w fun e w' => BsOut l t n e ∧ Hid (w' = w) := by
  have HA := Lib.hid ha
  have LA := Lib.hid ha.len
  have HS := Lib.hid hs
  clear ha hs
  go_enter Tryd.func118, Tryd.ntmps118
  go_wp2
  go_loopw [7, 8] (fun i j wr => ∃ a b : Nat, i = .int .i64 a ∧ j = .int .i64 b ∧ a ≤ b ∧ b ≤ n ∧ Hid ((∀ j (h : j < l.length), j < a → l[j] < t) ∧ ∀ j (h : j < l.length), b ≤ j → t ≤ l[j]) ∧ wr = w) (fun i j _ => (intOf j - intOf i).toNat)
  case atStart => exact ⟨0, n, rfl, rfl, Nat.zero_le _, Nat.le_refl _, Lib.hid ⟨fun j _ h => absurd h (Nat.not_lt_zero _), fun j h q => by have := LA.out; omega⟩, rfl⟩
  case round =>
    obtain ⟨a, b, rfl, rfl, hab, hbn, HI, rfl⟩ := hrel
    by_cases hlt : a < b
    · obtain ⟨m, hm⟩ : ∃ m : Nat, (a + b) / 2 = m := ⟨_, rfl⟩
      have hm1 : a ≤ m := by omega
      have hm2 : m < b := by omega
      have hmi : ((a : Int) + (b : Int)) / 2 = (m : Int) := by omega
      obtain ⟨g, p, rfl, hc⟩ := HA.out.here (by omega)
      have hml : m < l.length := by rw [LA.out]; omega
      have d1 := hc m hml
      have HL : Hid (∀ j (h : j < l.length), j ≤ m → l[j] ≤ l[m]'hml) := Lib.hid (fun j h q => ninc_le HS.out j m h hml q)
      have HH : Hid (∀ j (h : j < l.length), m ≤ j → l[m]'hml ≤ l[j]) := Lib.hid (fun j h q => ninc_le HS.out m j hml h q)
      clear hm hc
      obtain ⟨z, hz⟩ : ∃ q, l[m]'hml = q := ⟨_, rfl⟩
      rw [hz] at d1 HL HH
      clear hz
      clear hml
      have m0 : (0 : Int) ≤ (m : Int) := by omega
      have m1 : (m : Int) < (n : Int) := by omega
      by_cases hq : z < t
      · have HI2 : Hid ((∀ j (h : j < l.length), j < m + 1 → l[j] < t) ∧ ∀ j (h : j < l.length), b ≤ j → t ≤ l[j]) := Lib.hid ⟨fun j h q => by have := HL.out j h (by omega); omega, HI.out.2⟩
        have HCL := Lib.hid (fun W => cmpLess_any (z : Int) (t : Int) true (decide_eq_true (by omega)) W)
        clear HI HL HH
        go_wp2_with fail
        (with_reducible refine (HCL.out _).mono ?_)
        rintro e w1 ⟨rfl, rfl⟩
        go_wp2
        go_roundw
        case rel => exact ⟨m + 1, b, by go_num, rfl, by omega, hbn, HI2, trivial⟩
        case measure => simp [intOf]; omega
      · have HI2 : Hid ((∀ j (h : j < l.length), j < a → l[j] < t) ∧ ∀ j (h : j < l.length), m ≤ j → t ≤ l[j]) := Lib.hid ⟨HI.out.1, fun j h q => by have := HH.out j h q; omega⟩
        have HCL := Lib.hid (fun W => cmpLess_any (z : Int) (t : Int) false (decide_eq_false (by omega)) W)
        clear HI HL HH
        go_wp2_with fail
        (with_reducible refine (HCL.out _).mono ?_)
        rintro e w1 ⟨rfl, rfl⟩
        go_wp2
        go_roundw
        case rel => exact ⟨a, m, rfl, rfl, hm1, by omega, HI2, trivial⟩
        case measure => simp [intOf]; omega
    · obtain rfl : a = b := by omega
      by_cases hn2 : a < n
      · obtain ⟨g, p, rfl, hc⟩ := HA.out.here (by omega)
        have hml : a < l.length := by rw [LA.out]; omega
        have d1 := hc a hml
        have HZ2 : Hid (l[a]'hml = t ↔ ∃ h : a < l.length, l[a] = t) := Lib.hid ⟨fun h => ⟨hml, h⟩, fun ⟨_, h⟩ => h⟩
        clear hc
        obtain ⟨z, hz⟩ : ∃ q, l[a]'hml = q := ⟨_, rfl⟩
        rw [hz] at d1 HZ2
        clear hz
        clear hml
        have m0 : (0 : Int) ≤ (a : Int) := by omega
        have m1 : (a : Int) < (n : Int) := by omega
        by_cases hzt : z = t
        · have HF : Hid (∃ h : a < l.length, l[a] = t) := Lib.hid (HZ2.out.1 hzt)
          have t1 : ((z : Int) == (t : Int)) = true := by simp; omega
          clear HZ2 hzt
          go_wp2_with fail
          go_returns
          exact ⟨⟨a, true, hbn, rfl, Lib.hid ⟨HI.out.1, HI.out.2⟩, Lib.hid ⟨fun _ => HF.out, fun _ => rfl⟩⟩, Lib.hid rfl⟩
        · have HF : Hid (false = true ↔ ∃ h : a < l.length, l[a] = t) := Lib.hid ⟨fun h => (by cases h), fun h => absurd (HZ2.out.2 h) hzt⟩
          have t1 : ((z : Int) == (t : Int)) = false := by simp; omega
          clear HZ2 hzt
          go_wp2_with (go_at_call 124; (with_reducible refine (isNaN2_any _ _).mono ?_); rintro e w' ⟨rfl, rfl⟩)
          go_returns
          exact ⟨⟨a, false, hbn, rfl, Lib.hid ⟨HI.out.1, HI.out.2⟩, HF⟩, Lib.hid rfl⟩
      · have hf : a = n := by omega
        go_wp2
        go_returns
        exact ⟨⟨a, false, hbn, rfl, Lib.hid ⟨HI.out.1, HI.out.2⟩, Lib.hid ⟨fun h => (by cases h), fun ⟨h, _⟩ => by have := LA.out; omega⟩⟩, Lib.hid rfl⟩
end Go.Proofs.YtacpcokmgahjaaaDoor
